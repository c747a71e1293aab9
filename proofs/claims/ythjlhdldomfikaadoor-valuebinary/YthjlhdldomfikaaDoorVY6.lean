/- The document's own Good: is a text UTF-8 all through? -/
import Derived.LoopTactic
import Derived.Laws.IdiomStrings
import Derived.Test.YthjlhdldomfikaaDoorVY5
import Derived.Test.YthjlhdldomfikaaDoorVY3
namespace Go.Proofs.YthjlhdldomfikaaDoor
set_option linter.unusedSimpArgs false
set_option linter.unusedVariables false
set_option maxRecDepth 100000
set_option maxHeartbeats 1000000
open Go.RowKit Go.Shelf

theorem gS_bd (s : ByteArray) (j : Nat) : 0 ≤ gS s j ∧ gS s j ≤ 255 := by
  have := (s.data[j]?.getD 0).toNat_lt
  unfold gS; omega
theorem conv_str (s : ByteArray) (w : World) (hs : s.size ≤ 4294967296) : ∃ cap C fr, (convert 9 62 (.string s)).run Tryd.prog w = .ok (.slice (some ⟨w.heap.size, 0, none⟩) s.size cap) (w.drew.alloc (.cells C 5 fr)) ∧
    s.size ≤ cap ∧ cap ≤ maxLen ∧ ∀ j, j < s.size → C[j]? = some (.int .u8 (gS s j)) := by
  refine ⟨_, _, _, run_bytes_of_string w 9 62 5 s Tryd.underlying9 Tryd.underlying62 Tryd.underlying5, grownCap_ge _ _ _ _, grownCap_le_maxLen _ _ _ _ (by unfold maxLen; omega), fun j hj => ?_⟩
  have hj' : j < s.data.size := hj
  have hj2 : j < s.size := hj
  simp [bytesRow, Array.getElem?_append, hj', hj2, gS]
theorem posn_end {g : Nat → Int} {len m : Nat} (h : posn g len m = len) : ∀ k, m ≤ k → posn g len k = len := by
  intro k hk
  induction k with
  | zero => obtain rfl : m = 0 := by omega
            exact h
  | succ k ih =>
    rcases Nat.lt_or_ge k m with h' | h'
    · obtain rfl : m = k + 1 := by omega
      exact h
    · have := ih h'
      simp only [posn, this]
      simp [stepN]
theorem good_iff (s : ByteArray) (m : Nat) (h : Runes (gS s) s.size m) : GoodT s ↔ ∀ k, k < m → dGood (gS s) s.size (posn (gS s) s.size k) = true := by
  constructor
  · intro hG k hk
    have hl := h.2 k hk
    exact (dYes hl (hG k hl)).2.2
  · intro hA k hk
    have hkm : k < m := by
      rcases Nat.lt_or_ge k m with h' | h'
      · exact h'
      · have := posn_end h.1 k h'; omega
    have := hA k hkm
    cases hg : good (gS s) s.size (posn (gS s) s.size k) with
    | true => rfl
    | false => rw [(dBad hk hg).2.2] at this; cases this
theorem good_any (s : ByteArray) (hs : s.size ≤ 1048576) (r : Bool) (hr : r = true ↔ GoodT s) : Ret 18 #[.string s] (.bool r) := by
  intro W
  obtain ⟨cap, C, fr, hcv, h1, h2, hC⟩ := conv_str s W (by omega)
  have hSl : Sl (W.drew.alloc (.cells C 5 fr)) W.heap.size (.slice (some ⟨W.heap.size, 0, none⟩) s.size cap) s.size (gS s) := by
    by_cases h0 : s.size = 0
    · exact .inl ⟨_, _, by rw [h0], h0⟩
    · refine .inr ⟨0, cap, rfl, by omega, h1, h2, fun j hj => ?_⟩
      have hb : (W.drew.alloc (.cells C 5 fr)).heap[W.heap.size]? = some (.cells C 5 fr) := alloc_new W.drew _
      rw [Lib.cell_of_heap hb]
      simpa using hC j hj
  have HR := hide (rrunes_any (b := W.heap.size) (gS_bd s) _ hs hSl (by simp))
  have HB0 := hide ((Below.refl W.heap.size W).drew.alloc (Nat.le_refl _) (.cells C 5 fr))
  have HRR := hide hr
  have HSZ := hide hs
  clear hSl hC h1 h2 hr hs
  go_enter Tryd.func18, Tryd.ntmps18
  go_wp2_with (go_at_call 55; refine (unhide HR).mono ?_; rintro e w2 ⟨m, v, rfl, hR, hown, hB⟩)
  have hB2 : Below W.heap.size W w2 := (unhide HB0).trans (hB.mono (by simp))
  have HB2 := hide hB2
  have HG := hide (good_iff s m hR)
  obtain ⟨ao, cp, rfl⟩ : ∃ ao cp, v = .slice ao m cp := by
    rcases hown.2 with ⟨q1, q2⟩ | ⟨g, cap, cur, q1, _⟩
    · exact ⟨none, 0, by rw [q1, q2]⟩
    · exact ⟨_, _, q1⟩
  have hcp : m ≤ 1048576 := Nat.le_trans hR.le (unhide HSZ)
  have HC : Hid (∀ k, k < m → ∃ g, ao = some ⟨g, 0, none⟩ ∧ w2.cell? ⟨g, k * 4 + 3, none⟩ = some (.bool (dGood (gS s) s.size (posn (gS s) s.size k)))) := fun k hk => by
    rcases hown.2 with ⟨q1, q2⟩ | ⟨g, cap, cur, q1, _⟩
    · omega
    · cases q1
      refine ⟨g, rfl, ?_⟩
      have := hown.cells (g := g) rfl (k * 4 + 3) (.bool (dGood (gS s) s.size (posn (gS s) s.size k))) (by rw [rows4_get _ _ hk (by omega)]; rfl)
      rw [Addr.add_lit, Nat.zero_add] at this
      exact this
  clear hB hB2 hown hR
  go_wp2
  go_loopw [4] (fun t wr => ∃ k : Nat, k ≤ m ∧ t = .int .i64 k ∧ wr = w2 ∧ ∀ j, j < k → dGood (gS s) s.size (posn (gS s) s.size j) = true) (fun t _ => m - (intOf t).toNat)
  case atStart => exact ⟨0, Nat.zero_le _, rfl, rfl, fun j hj => by omega⟩
  case round =>
    obtain ⟨k, hk, rfl, rfl, hall⟩ := hrel
    by_cases hlt : k < m
    · have hlt' : (k : Int) < m := by omega
      obtain ⟨g, rfl, hcell⟩ := unhide HC k hlt
      have HALL := hide hall
      clear hall
      cases hd : dGood (gS s) s.size (posn (gS s) s.size k) with
      | true =>
        rw [hd] at hcell
        have HD := hide hd
        clear hd
        go_wp2
        refine ⟨⟨k + 1, by omega, by congr 1, by trivial, fun j hj => ?_⟩, by simp [intOf]; omega⟩
        rcases Nat.lt_or_ge j k with h' | h'
        · exact unhide HALL j h'
        · obtain rfl : j = k := by omega
          exact unhide HD
      | false =>
        rw [hd] at hcell
        have hr : r = false := by
          cases r with
          | false => rfl
          | true => have := (unhide HG).1 ((unhide HRR).1 rfl) k hlt; rw [hd] at this; cases this
        subst hr
        clear hd
        go_wp2
        go_ret
        exact ⟨rfl, unhide HB2⟩
    · have hlt' : ¬ ((k : Int) < m) := by omega
      have hr : r = true := (unhide HRR).2 ((unhide HG).2 fun j hj => hall j (by omega))
      subst hr
      clear hall
      go_wp2
      go_ret
      exact ⟨rfl, unhide HB2⟩
end Go.Proofs.YthjlhdldomfikaaDoor

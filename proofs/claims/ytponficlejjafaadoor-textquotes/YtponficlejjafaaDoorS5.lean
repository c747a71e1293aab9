/- shucklaw1.TextRunes, walked at every row of bytes. -/
import Derived.Laws.EntriesVeiled
import Derived.Test.YtponficlejjafaaDoorS4
namespace Go.Proofs.YtponficlejjafaaDoor
set_option linter.unusedSimpArgs false
set_option linter.unusedVariables false
open Go.RowKit Go.Shelf

set_option maxHeartbeats 1000000 in
theorem textRunes_big {a : Option Addr} {len cap : Nat} {p : Int} (w : World) (h : 600 < len) (hm : len ≤ maxLen) :
    Calls Tryd.prog 4 #[.slice a len cap, .int .i64 p] w fun e w' => e = .returned (.bool true) ∧ Below w.heap.size w w' := by
  unfold maxLen at hm
  have h' : (600 : Int) < len := by omega
  go_enter Tryd.func4, Tryd.ntmps4
  go_wp2
  go_ret
  exact ⟨rfl, (Below.refl _ _).alloc (Nat.le_refl _) _⟩

theorem it_not_nil (B : Nat) (w : World) : (binOp .eql 35 (.func (.func 33) #[] #[.pointer (some ⟨B, 0, none⟩)]) .nilFunc).run Tryd.prog w = .ok (.bool false) w := by kernel_rfl
theorem ownsRow_slice {w : World} {base : Nat} {e : TypeId} {size : Nat} {v : Value} {n : Nat} {xs : List Value} (h : w.ownsRow base e size v n xs) : ∃ ao cap, v = .slice ao n cap := by
  rcases h.2 with ⟨h, h0⟩ | ⟨gw, cap, cur, h, _⟩
  · exact ⟨none, 0, by rw [h, h0]⟩
  · exact ⟨_, cap, h⟩

set_option maxRecDepth 100000 in
set_option maxHeartbeats 2000000 in
theorem textRunes_small {b : Nat} {a : Option Addr} {len cap : Nat} {g : Nat → Int} (hg : ∀ j, 0 ≤ g j ∧ g j ≤ 255) (stop : Int) (hlo : -9223372036854775808 ≤ stop) (w : World) (h : len ≤ 600) (hS : Sl w b (.slice a len cap) len g) (hR : Src w (.slice a len cap) len g) (hb : b < w.heap.size) :
    Calls Tryd.prog 4 #[.slice a len cap, .int .i64 stop] w fun e w' => e = .returned (.bool true) ∧ Below w.heap.size w w' := by
  have h' : ¬ (600 : Int) < len := by omega
  have hB4 : decide ((600 : Int) < len) = false := by simp; omega
  have hBs : Below w.heap.size w (w.alloc (.cells #[.int .i64 stop] 3)) := (Below.refl _ w).alloc (Nat.le_refl _) _
  have HSs := hide (hS.keep (fun k e => by subst e; exact hBs.block k hb))
  have HRs : Hid (∀ W, Below w.heap.size w W → Src W (.slice a len cap) len g) := fun W hW => by
    rcases hR with h | ⟨ad, cap', h1, h2⟩
    · exact .inl h
    · exact .inr ⟨ad, cap', h1, fun j hj => (hW.cell (p := ad.add j) (World.block_lt_of_cell? w _ (h2 j hj))).trans (h2 j hj)⟩
  clear hS hR
  have hsz1 : (w.alloc (.cells #[.int .i64 stop] 3)).heap.size = w.heap.size + 1 := by simp
  have hnf := it_not_nil
  go_enter Tryd.func4, Tryd.ntmps4
  go_wp2_with (first | (go_at_call 14; refine (rrunes_any hg _ (by omega) (unhide HSs) (by simp; omega)).mono ?_; rintro e w1 ⟨m, v, rfl, hm, hown, hB1⟩; obtain ⟨ao, cv, rfl⟩ := ownsRow_slice hown; have hBw1 := hide (hBs.trans (hB1.mono (by simp))); have HO := hide hown; have HB1 := hide hB1; clear hown hB1) | (go_at_call 15; refine (runes_any (g := g) (by omega) (unhide HRs _ ((unhide hBw1).alloc (unhide hBw1).size _)) (by simp)).mono ?_; rintro e w2 ⟨Bk, c, sv, rfl, hBk, hSc, hc1, hc2, hc3, hB2⟩; have HBk := hide hBk; have HSc := hide hSc; have HB2 := hide hB2; have HC := hide (And.intro hc1 (And.intro hc2 hc3)); clear hBk hSc hc1 hc2 hc3 hB2))
  clear hnf
  obtain ⟨W0, hW0⟩ : ∃ W0, w2.alloc (.cells #[.func (.func 33) #[] #[.pointer (some ⟨Bk, 0, none⟩)]] 35) = W0 := ⟨_, rfl⟩
  have hB1 := unhide HB1
  have hB2 := unhide HB2
  have hs1 := hB1.size
  have hs2 := hB2.size
  simp only [World.size_alloc] at hs1 hs2
  have hBW2 : Below (w1.heap.size + 1) (w1.alloc (.cells #[.slice ao m cv] 32)) W0 := by
    rw [← hW0]
    have := hB2.alloc hB2.size (.cells #[.func (.func 33) #[] #[.pointer (some ⟨Bk, 0, none⟩)]] 35)
    rw [World.size_alloc] at this; exact this
  have hz0 : W0.heap.size = w2.heap.size + 1 := by rw [← hW0]; simp
  have hBW1 : Below w1.heap.size w1 W0 := ((Below.refl _ w1).alloc (Nat.le_refl _) _).trans (hBW2.mono (by omega))
  have hBWw : Below w.heap.size w W0 := (unhide hBw1).trans (hBW1.mono (by omega))
  have bs : Boxed W0 w.heap.size 3 (.int .i64 stop) := boxed_below (boxed_below (Boxed.new w 3 _) hB1 (by simp)) hBW1 (by omega)
  have bw : Boxed W0 w1.heap.size 32 (.slice ao m cv) := boxed_below (Boxed.new w1 32 _) hBW2 (by omega)
  have bi : Boxed W0 w2.heap.size 35 (.func (.func 33) #[] #[.pointer (some ⟨Bk, 0, none⟩)]) := by rw [← hW0]; exact Boxed.new w2 35 _
  have hBl := (unhide HBk).lt
  have bk : Boxed W0 Bk 22 sv := by rw [← hW0]; exact (unhide HBk).alloc _
  have how : W0.ownsRow (w.heap.size + 1) 26 4 (.slice ao m cv) m (rows4 g len m) := by
    have := ownsRow_below (unhide HO) hBW1
    rw [World.size_alloc] at this; exact this
  have hcc := (unhide HC).2.1
  have hSl0 : Sl W0 c sv len g := by rw [← hW0]; exact (unhide HSc).keep (fun k e => by subst e; exact Below.heap_alloc w2 _ k hcc)
  rw [hW0]
  have HOW := hide how
  have HSL := hide hSl0
  clear hW0 how hSl0 hB1 hB2 hBW1 hBW2 HB1 HB2 HO HSc HBk HC hBw1 HSs HRs hBs
  go_loopw [7] (fun t wr => ∃ k : Nat, k ≤ 2 ∧ t = .int .i64 (k : Int) ∧ Below W0.heap.size W0 wr) (fun t _ => 2 - (intOf t).toNat)
  case atStart => exact ⟨0, by omega, rfl, Below.refl _ _⟩
  case round =>
    obtain ⟨k, hk, rfl, hB⟩ := hrel
    have hsr := hB.size
    by_cases hlt : k < 2
    · have hlt' : (k : Int) < 2 := by omega
      have x1 := boxed_below bi hB (by omega)
      have x1c := ((x1.alloc (.cells #[.int .i64 0] 3)).alloc (.cells #[.bool true] 4)).cell
      have u1 : Boxed ((wr.alloc (.cells #[.int .i64 0] 3)).alloc (.cells #[.bool true] 4)) (wr.heap.size + 1) 4 (.bool true) := by
        have := Boxed.new (wr.alloc (.cells #[.int .i64 0] 3)) 4 (.bool true)
        rw [World.size_alloc] at this; exact this
      have u2 : Boxed ((wr.alloc (.cells #[.int .i64 0] 3)).alloc (.cells #[.bool true] 4)) wr.heap.size 3 (.int .i64 0) := (Boxed.new wr 3 _).alloc _
      have u3 := ((boxed_below bw hB (by omega)).alloc (.cells #[.int .i64 0] 3)).alloc (.cells #[.bool true] 4)
      have u4 := ((boxed_below bs hB (by omega)).alloc (.cells #[.int .i64 0] 3)).alloc (.cells #[.bool true] 4)
      have u5 := (x1.alloc (.cells #[.int .i64 0] 3)).alloc (.cells #[.bool true] 4)
      have u6 := ((boxed_below bk hB (by omega)).alloc (.cells #[.int .i64 0] 3)).alloc (.cells #[.bool true] 4)
      have hBU : Below wr.heap.size wr ((wr.alloc (.cells #[.int .i64 0] 3)).alloc (.cells #[.bool true] 4)) := ((Below.refl _ wr).alloc (Nat.le_refl _) _).alloc (by simp) _
      have u7 : Sl ((wr.alloc (.cells #[.int .i64 0] 3)).alloc (.cells #[.bool true] 4)) c sv len g := (unhide HSL).keep (fun k e => by subst e; exact (hBU.block k (by omega)).trans (hB.block k (by omega)))
      have HRUN := hide (outer_run hg (by omega) hm u1 u2 u3 (ownsRow_below (ownsRow_below (unhide HOW) hB) hBU) u4 u5 u6 u7 (by simp; omega) (by omega) (by omega) (by omega) (by omega) (by omega) (by omega) (by omega) (by omega) (by omega) (by omega) (by omega))
      have U1 := hide u1
      have U3 := hide u3
      clear u1 u2 u3 u4 u5 u6 u7
      go_wp2_with (go_at_call 33; refine (unhide HRUN).mono ?_; rintro e A ⟨⟨u, rfl⟩, hF, hbo, hbn⟩; have y1 := hbo.cell; have y2 := hbn.cell; have y3 := (boxed_fr (unhide U3) hF (by rintro (h | h) <;> omega)).cell)
      have hBA : Below W0.heap.size W0 A := hB.trans ((hBU.mono hsr).trans (hF.toBelow (by simp; omega) (fun k hk => by rintro (h | h) <;> omega)))
      exact ⟨⟨k + 1, by omega, by go_num, hBA⟩, by simp [intOf]; omega⟩
    · have hlt' : ¬ (k : Int) < 2 := by omega
      have x1 := boxed_below bi hB (by omega)
      have x1c := (x1.alloc (.cells #[.int .i64 0] 3)).cell
      have u2 : Boxed (wr.alloc (.cells #[.int .i64 0] 3)) wr.heap.size 3 (.int .i64 0) := Boxed.new wr 3 _
      have u3 := (boxed_below bw hB (by omega)).alloc (.cells #[.int .i64 0] 3)
      have u4 := (boxed_below bs hB (by omega)).alloc (.cells #[.int .i64 0] 3)
      have u6 := (boxed_below bk hB (by omega)).alloc (.cells #[.int .i64 0] 3)
      have hBU : Below wr.heap.size wr (wr.alloc (.cells #[.int .i64 0] 3)) := (Below.refl _ wr).alloc (Nat.le_refl _) _
      have u7 : Sl (wr.alloc (.cells #[.int .i64 0] 3)) c sv len g := (unhide HSL).keep (fun k e => by subst e; exact (hBU.block k (by omega)).trans (hB.block k (by omega)))
      have HRUN := hide (count_run hg (by omega) hm u2 u4 u6 u7 (by simp; omega) (by omega) (by omega) (by omega))
      have U3 := hide u3
      have U4 := hide u4
      clear u2 u3 u4 u6 u7
      have hml := hm.le
      have hfin : ∀ A : World, Below W0.heap.size W0 A → Below w.heap.size w A := fun A hA => hBWw.trans (hA.mono hBWw.size)
      have HFIN := hide hfin
      clear hfin
      by_cases c1 : stop < (m : Int)
      · go_wp2_with (first | (go_at_call 33; refine (unhide HRUN).mono ?_; rintro e A ⟨⟨u, rfl⟩, hF, n, hbn, hmet⟩; have y2 := hbn.cell; have y3 := (boxed_fr (unhide U3) hF (by omega)).cell; have y4 := (boxed_fr (unhide U4) hF (by omega)).cell; have hne : ((n : Int) == min (m : Int) (max 1 (stop + 1))) = true := (by rw [beq_iff_eq]; rcases hmet with h | h <;> omega); clear hmet) | (go_at_call 13; refine (known_any _).mono ?_; rintro e A5 ⟨rfl, hB5⟩))
        go_ret
        have hBA : Below W0.heap.size W0 A := hB.trans ((hBU.mono hsr).trans (hF.toBelow (by simp; omega) (fun k hk => by omega)))
        exact ⟨rfl, (unhide HFIN A hBA).trans (hB5.mono (unhide HFIN A hBA).size)⟩
      · go_wp2_with (first | (go_at_call 33; refine (unhide HRUN).mono ?_; rintro e A ⟨⟨u, rfl⟩, hF, n, hbn, hmet⟩; have y2 := hbn.cell; have y3 := (boxed_fr (unhide U3) hF (by omega)).cell; have y4 := (boxed_fr (unhide U4) hF (by omega)).cell; obtain rfl : n = m := (by rcases hmet with h | h <;> omega); clear hmet) | (go_at_call 13; refine (known_any _).mono ?_; rintro e A5 ⟨rfl, hB5⟩))
        go_ret
        have hBA : Below W0.heap.size W0 A := hB.trans ((hBU.mono hsr).trans (hF.toBelow (by simp; omega) (fun k hk => by omega)))
        exact ⟨rfl, (unhide HFIN A hBA).trans (hB5.mono (unhide HFIN A hBA).size)⟩
end Go.Proofs.YtponficlejjafaaDoor

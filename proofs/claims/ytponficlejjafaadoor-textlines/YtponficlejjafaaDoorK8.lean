/- shucklaw1.TextLines, walked at every row of bytes. -/
import Derived.Test.YtponficlejjafaaDoorK7
namespace Go.Proofs.YtponficlejjafaaDoor
set_option linter.unusedSimpArgs false
set_option linter.unusedVariables false
open Go.RowKit Go.Shelf

set_option maxHeartbeats 1000000 in
theorem textLines_big {a : Option Addr} {len cap : Nat} {p : Int} (w : World) (h : 4000 < len) (hm : len ≤ maxLen) :
    Calls Tryd.prog 7 #[.slice a len cap, .int .i64 p] w fun e w' => e = .returned (.bool true) ∧ Below w.heap.size w w' := by
  unfold maxLen at hm
  have h' : (4000 : Int) < len := by omega
  go_enter Tryd.func7, Tryd.ntmps7
  go_wp2
  go_ret
  exact ⟨rfl, (Below.refl _ _).alloc (Nat.le_refl _) _⟩

theorem lines_not_nil (B : Nat) (w : World) : (binOp .eql 46 (.func (.func 35) #[] #[.pointer (some ⟨B, 0, none⟩)]) .nilFunc).run Tryd.prog w = .ok (.bool false) w := by kernel_rfl

set_option maxRecDepth 100000 in
set_option maxHeartbeats 2000000 in
theorem textLines_small {b : Nat} {a : Option Addr} {len cap : Nat} {g : Nat → Int} (hg : ∀ j, 0 ≤ g j ∧ g j ≤ 255) (n : Int) (hn1 : -9223372036854775808 ≤ n) (hn2 : n ≤ 9223372036854775807) (w : World) (h : len ≤ 4000) (hS : Sl w b (.slice a len cap) len g) (hR : Src w (.slice a len cap) len g) (hb : b < w.heap.size) :
    Calls Tryd.prog 7 #[.slice a len cap, .int .i64 n] w fun e w' => e = .returned (.bool true) ∧ Below w.heap.size w w' := by
  have h' : ¬ (4000 : Int) < len := by omega
  have hB4 : decide ((4000 : Int) < len) = false := by simp; omega
  have hBs : Below w.heap.size w (w.alloc (.cells #[.slice a len cap] 22)) := (Below.refl _ w).alloc (Nat.le_refl _) _
  have HSs := hide (hS.keep (fun k e => by subst e; exact hBs.block k hb))
  have HSA : Hid (∀ W, Below w.heap.size w W → Sl W b (.slice a len cap) len g) := fun W hW => hS.keep (fun k e => by subst e; exact hW.block k hb)
  have HRs : Hid (∀ W, Below w.heap.size w W → Src W (.slice a len cap) len g) := fun W hW => by
    rcases hR with h | ⟨ad, cap', h1, h2⟩
    · exact .inl h
    · exact .inr ⟨ad, cap', h1, fun j hj => (hW.cell (p := ad.add j) (World.block_lt_of_cell? w _ (h2 j hj))).trans (h2 j hj)⟩
  clear hS hR
  have hsz1 : (w.alloc (.cells #[.slice a len cap] 22)).heap.size = w.heap.size + 1 := by simp
  have hll := allL_length g len
  have hnf := lines_not_nil
  have bb0 : Boxed (w.alloc (.cells #[.slice a len cap] 22)) w.heap.size 22 (.slice a len cap) := Boxed.new w 22 _
  have cb0 := bb0.cell
  go_enter Tryd.func7, Tryd.ntmps7
  go_wp2_with (first | (go_at_call 22; refine (rlines_any hg _ (by omega) (unhide HSs) (by simp; omega)).mono ?_; rintro e w1 ⟨v, rfl, hown, hB1⟩; obtain ⟨ao, cv, rfl⟩ := ownsRow_slice hown; have hBw1 := hide (hBs.trans (hB1.mono (by simp))); have cb1 := ((boxed_below bb0 hB1 (by simp)).alloc (.cells #[.slice ao (allL g len).length cv] 43)).cell; have HO := hide hown; have HB1 := hide hB1; clear hown hB1) | (go_at_call 23; refine (lines_any (g := g) (by omega) (unhide HRs _ ((unhide hBw1).alloc (unhide hBw1).size _)) (by simp)).mono ?_; rintro e w2 ⟨Bk, c, sv, rfl, hBk, hSc, hc1, hc2, hc3, hB2⟩; have HBk := hide hBk; have HSc := hide hSc; have HB2 := hide hB2; have HC := hide (And.intro hc1 (And.intro hc2 hc3)); clear hBk hSc hc1 hc2 hc3 hB2))
  clear hnf cb0
  have hB1 := unhide HB1
  have hB2 := unhide HB2
  have hs1 := hB1.size
  have hs2 := hB2.size
  simp only [World.size_alloc] at hs1 hs2
  obtain ⟨hc1, hc2, hc3⟩ := unhide HC
  simp only [World.size_alloc] at hc1
  obtain ⟨W3, hW3⟩ : ∃ W3, ((w2.alloc (.cells #[.int .i64 0] 3)).alloc (.cells #[.bool true] 4)).alloc (.cells #[.string ⟨#[]⟩] 9) = W3 := ⟨_, rfl⟩
  have hz3 : W3.heap.size = w2.heap.size + 1 + 1 + 1 := by rw [← hW3]; simp
  have hB23 : Below w2.heap.size w2 W3 := by rw [← hW3]; exact (((Below.refl _ w2).alloc (Nat.le_refl _) _).alloc (by simp) _).alloc (by simp; omega) _
  have u1 : Boxed W3 (w2.heap.size + 1) 4 (.bool true) := by
    have := (Boxed.new (w2.alloc (.cells #[.int .i64 0] 3)) 4 (.bool true)).alloc (.cells #[.string ⟨#[]⟩] 9)
    rw [World.size_alloc] at this; rw [← hW3]; exact this
  have u2 : Boxed W3 w2.heap.size 3 (.int .i64 0) := by rw [← hW3]; exact ((Boxed.new w2 3 _).alloc _).alloc _
  have u3 : Boxed W3 (w2.heap.size + 1 + 1) 9 (.string ⟨#[]⟩) := by
    have := Boxed.new ((w2.alloc (.cells #[.int .i64 0] 3)).alloc (.cells #[.bool true] 4)) 9 (.string ⟨#[]⟩)
    rw [World.size_alloc, World.size_alloc] at this; rw [← hW3]; exact this
  have hB1w : Below (w1.heap.size + 1) (w1.alloc (.cells #[.slice ao (allL g len).length cv] 43)) W3 := by
    have := hB2
    rw [World.size_alloc] at this
    exact this.trans (hB23.mono (by omega))
  have hBW1 : Below w1.heap.size w1 W3 := ((Below.refl _ w1).alloc (Nat.le_refl _) _).trans (hB1w.mono (by omega))
  have hBWw : Below w.heap.size w W3 := (unhide hBw1).trans (hBW1.mono (by omega))
  have bw : Boxed W3 w1.heap.size 43 (.slice ao (allL g len).length cv) := boxed_below (Boxed.new w1 43 _) hB1w (by omega)
  have bb : Boxed W3 w.heap.size 22 (.slice a len cap) := boxed_below (boxed_below bb0 hB1 (by simp)) hBW1 (by omega)
  have how : W3.ownsRow (w.heap.size + 1) 48 2 (.slice ao (allL g len).length cv) (allL g len).length (rows2 (allL g len)) := by
    have := ownsRow_below (unhide HO) hBW1
    rw [World.size_alloc] at this; exact this
  have hkl := (unhide HBk).lt
  have bk : Boxed W3 Bk 22 sv := boxed_below (unhide HBk) hB23 hkl
  have hSc : Sl W3 c sv len g := (unhide HSc).keep (fun k e => by subst e; exact hB23.block k hc2)
  have hSb := unhide HSA _ hBWw
  rw [hW3]
  clear hW3
  have HRUN := hide (cl_run hg h u1 u2 bw bb u3 hSb how bk hSc (by omega) (by omega) (by omega) (by omega) (by omega) (by rintro (h | h | h) <;> omega) (by rintro (h | h | h) <;> omega) (by rintro (h | h | h) <;> omega) (by rintro (h | h | h) <;> omega) (by rintro (h | h | h) <;> omega))
  have HOW := hide how
  have nv : ∀ k, (Value.slice ao (allL g len).length cv).ownBlock = some k → ¬ (k = w2.heap.size + 1 ∨ k = w2.heap.size ∨ k = w2.heap.size + 1 + 1) := by
    rintro k hk (rfl | rfl | rfl)
    · exact u1.not_row (by decide) how hk.symm
    · exact u2.not_row (by decide) how hk.symm
    · exact u3.not_row (by decide) how hk.symm
  have NV := hide nv
  clear u1 u2 u3 how bk hSc hSb nv HO HSc HBk HC HB1 HB2 hB1 hB2 hB1w hBW1 cb1 HSs
  refine (unhide HRUN).mono ?_
  rintro e A ⟨⟨u, rfl⟩, hF, hbo, hbn, hbs⟩
  have hzA := hF.size
  have bwA : Boxed A w1.heap.size 43 (.slice ao (allL g len).length cv) := boxed_fr bw hF (by rintro (h | h | h) <;> omega)
  have bbA : Boxed A w.heap.size 22 (.slice a len cap) := boxed_fr bb hF (by rintro (h | h | h) <;> omega)
  have hBA : Below w.heap.size w A := hBWw.trans (hF.toBelow (by omega) (fun k hk => by rintro (h | h | h) <;> omega))
  have HOA := hide (ownsRow_fr (unhide HOW) hF (unhide NV))
  have y1 := hbo.cell
  have y2 := hbn.cell
  have y3 := hbs.cell
  have y4 := bwA.cell
  have y5 := bbA.cell
  have hcv : (convert 22 9 (.slice a len cap)).run Tryd.prog A = .ok (.string (strOfNums (upto g len))) A := conv_run (unhide HRs _ hBA)
  clear hF hbo hbn hbs bw bb HRUN HOW NV hBWw hB23
  go_wp2
  have a1 := bwA.lt
  have a2 := bbA.lt
  have a3 := hBA.size
  clear y1 y2 y3 y4 y5 hcv
  go_loopw [10] (fun t wr => ∃ k : Nat, k ≤ (allL g len).length + 3 ∧ t = .int .i64 ((k : Int) - 1) ∧ Below A.heap.size A wr) (fun t _ => (((allL g len).length : Int) + 2 - intOf t).toNat)
  case atStart => exact ⟨0, by omega, rfl, Below.refl _ _⟩
  case round =>
    obtain ⟨k, hk, rfl, hB⟩ := hrel
    have hsr := hB.size
    have y4 := (boxed_below bwA hB a1).cell
    have y5 := (boxed_below bbA hB a2).cell
    have hBr : Below w.heap.size w wr := hBA.trans (hB.mono a3)
    have hO := ownsRow_below (unhide HOA) hB
    have hSr := unhide HSA _ hBr
    by_cases hlt : (k : Int) - 1 ≤ ((allL g len).length : Int) + 1
    · have hlb : decide ((k : Int) - 1 ≤ ((allL g len).length : Int) + 1) = true := by simpa using hlt
      have HC := hide (lineOk_any hg ((k : Int) - 1) (by omega) (by omega) wr (by omega) hSr (by omega) hO)
      clear hO hSr HSA HRs HOA
      go_wp2_with (go_at_call 25; refine (unhide HC).mono ?_; rintro e w5 ⟨rfl, hB5⟩)
      exact ⟨⟨k + 1, by omega, by go_num, hB.trans (hB5.mono hsr)⟩, by simp [intOf]; omega⟩
    · have hlb : decide ((k : Int) - 1 ≤ ((allL g len).length : Int) + 1) = false := by simpa using hlt
      have HC := hide (lineOk_any hg n hn1 hn2 wr (by omega) hSr (by omega) hO)
      clear hO hSr HSA HRs HOA
      go_wp2_with (first | (go_at_call 25; refine (unhide HC).mono ?_; rintro e w5 ⟨rfl, hB5⟩) | (go_at_call 13; refine (known_any _).mono ?_; rintro e w6 ⟨rfl, hB6⟩))
      go_ret
      have h5 : Below w.heap.size w w5 := hBr.trans (hB5.mono hBr.size)
      exact ⟨rfl, h5.trans (hB6.mono h5.size)⟩
end Go.Proofs.YtponficlejjafaaDoor

/- shucklaw1.TextPlaces, walked at every row of bytes. -/
import Derived.Test.YtgcgaibncalknaaDoorE1
import Derived.Test.YtgcgaibncalknaaDoorP1
namespace Go.Proofs.YtgcgaibncalknaaDoor
set_option linter.unusedSimpArgs false
set_option linter.unusedVariables false
open Go.RowKit

set_option maxHeartbeats 1000000 in
theorem textPlaces_big {a : Option Addr} {len cap : Nat} {p : Int} (w : World) (h : 400 < len) (hm : len ≤ maxLen) :
    Calls Tryd.prog 6 #[.slice a len cap, .int .i64 p] w fun e w' => e = .returned (.bool true) ∧ Below w.heap.size w w' := by
  unfold maxLen at hm
  have h' : (400 : Int) < len := by omega
  go_enter Tryd.func6, Tryd.ntmps6
  go_wp2
  go_ret
  exact ⟨rfl, Below.refl _ _⟩

set_option maxRecDepth 100000 in
set_option maxHeartbeats 2000000 in
theorem textPlaces_small {b : Nat} {a : Option Addr} {len cap : Nat} {g : Nat → Int} (hg : ∀ j, 0 ≤ g j ∧ g j ≤ 255) (p : Int) (w : World) (h : len ≤ 400) (hS : Sl w b (.slice a len cap) len g) (hb : b < w.heap.size) :
    Calls Tryd.prog 6 #[.slice a len cap, .int .i64 p] w fun e w' => e = .returned (.bool true) ∧ Below w.heap.size w w' := by
  have h' : ¬ (400 : Int) < len := by omega
  have hB4 : decide ((400 : Int) < len) = false := by simp; omega
  have HS := hide hS
  clear hS
  go_enter Tryd.func6, Tryd.ntmps6
  go_wp2
  go_loopw [5] (fun i wr => ∃ k : Nat, k ≤ len + 3 ∧ i = .int .i64 ((k : Int) - 1) ∧ Below w.heap.size w wr) (fun i _ => len + 3 - (intOf i + 1).toNat)
  case atStart => exact ⟨0, Nat.zero_le _, rfl, Below.refl _ _⟩
  case round =>
    obtain ⟨k, hk, rfl, hB⟩ := hrel
    have hSr : Hid (Sl wr b (.slice a len cap) len g) := (unhide HS).keep (fun k e => by subst e; exact hB.block k hb)
    have hbr : b < wr.heap.size := Nat.lt_of_lt_of_le hb hB.size
    by_cases hlt : k < len + 3
    · have hlt' : (k : Int) - 1 ≤ (len : Int) + 1 := by omega
      go_wp2_with (go_at_call 20; refine (place_any b a len cap g hg _ _ (by omega) (unhide hSr) hbr).mono ?_; rintro e w1 ⟨⟨ln, cl, rfl, n, p1, p2, p3, hln, hcl⟩, hb1⟩; have HL := hide hln; have HC := hide hcl; have H3 := hide p3; clear hln hcl p3)
      have hbw : b < w1.heap.size := Nat.lt_of_lt_of_le hbr hb1.size
      have hSw : Sl w1 b (.slice a len cap) len g := (unhide hSr).keep (fun k e => by subst e; exact hb1.block k hbr)
      have e1 := unhide HL
      have e2 := unhide HC
      subst e1 e2
      clear HL HC
      refine (rplace_any hg _ n w1 (by omega) hSw hbw p1 p2 (unhide H3)).mono ?_
      rintro e w2 ⟨rfl, hb2⟩
      clear hSw
      go_wp2
      have hB1 := hB.trans (hb1.mono hB.size)
      exact ⟨⟨k + 1, by omega, by congr 1; omega, hB1.trans (hb2.mono hB1.size)⟩, by simp [intOf]; omega⟩
    · have hlt' : ¬ (k : Int) - 1 ≤ (len : Int) + 1 := by omega
      go_wp2_with (go_at_call 20; refine (place_any b a len cap g hg _ _ (by omega) (unhide hSr) hbr).mono ?_; rintro e w1 ⟨⟨ln, cl, rfl, n, p1, p2, p3, hln, hcl⟩, hb1⟩; have HL := hide hln; have HC := hide hcl; have H3 := hide p3; clear hln hcl p3)
      have hbw : b < w1.heap.size := Nat.lt_of_lt_of_le hbr hb1.size
      have hSw : Sl w1 b (.slice a len cap) len g := (unhide hSr).keep (fun k e => by subst e; exact hb1.block k hbr)
      have e1 := unhide HL
      have e2 := unhide HC
      subst e1 e2
      clear HL HC
      refine (rplace_any hg _ n w1 (by omega) hSw hbw p1 p2 (unhide H3)).mono ?_
      rintro e w2 ⟨rfl, hb2⟩
      clear hSw
      have hB1 := hB.trans (hb1.mono hB.size)
      have hB2 := hB1.trans (hb2.mono hB1.size)
      go_wp2_with (go_at_call 13; refine (known_any _).mono ?_; rintro e w5 ⟨rfl, hB5⟩)
      go_ret
      exact ⟨rfl, hB2.trans (hB5.mono hB2.size)⟩
end Go.Proofs.YtgcgaibncalknaaDoor

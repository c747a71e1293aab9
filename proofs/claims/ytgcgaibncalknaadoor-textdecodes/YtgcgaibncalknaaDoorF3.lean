/- shucklaw1.stands and shucklaw1.TextDecodes, walked at every row of bytes. -/
import Derived.Test.YtgcgaibncalknaaDoorE1
import Derived.Test.YtgcgaibncalknaaDoorF2
namespace Go.Proofs.YtgcgaibncalknaaDoor
set_option linter.unusedSimpArgs false
set_option linter.unusedVariables false
open Go.RowKit

theorem bytes_sl {w : World} {b gb c' len : Nat} {sv : Value} {g : Nat → Int} (hlen : len ≤ 4294967296) (hS : Sl w b sv len g) (hb : b < w.heap.size) (hgb : gb < w.heap.size) (h1 : ∀ j, j < len → w.cell? ⟨gb, j, none⟩ = some (.int .u8 (g j))) :
    Calls Tryd.prog 31 #[.slice (some ⟨gb, 0, none⟩) len c', sv] w fun e w' => e = .returned (.bool true) ∧ Below w.heap.size w w' := by
  rcases hS with ⟨a, cap, rfl, rfl⟩ | ⟨off, cap, rfl, h0, h2, h3, hc⟩
  · exact bytes_none _ a c' cap w
  · exact bytes_some gb 0 c' b off cap len g w (Nat.le_trans h2 h3) (fun j hj => by rw [Nat.zero_add]; exact h1 j hj) hc hgb hb

set_option maxHeartbeats 1000000 in
theorem stands_any {w : World} {b gb c' len : Nat} {a : Option Addr} {cap : Nat} {g : Nat → Int} (hlen : len ≤ 4294967296) (hS : Sl w b (.slice a len cap) len g) (hb : b < w.heap.size) (hc1 : len + 1 ≤ c') (h1 : ∀ j, j < len → w.cell? ⟨gb, j, none⟩ = some (.int .u8 (g j)))
    (h2 : w.cell? ⟨gb, len, none⟩ = some (.int .u8 171)) :
    Calls Tryd.prog 12 #[.slice (some ⟨gb, 0, none⟩) (len + 1) c', .slice a len cap] w fun e w' => e = .returned (.bool true) ∧ Below w.heap.size w w' := by
  have hgb : gb < w.heap.size := World.block_lt_of_cell? _ _ h2
  have HB := hide (bytes_sl (c' := c') hlen hS hb hgb h1)
  have H2 := hide h2
  clear h1 h2 hS
  go_enter Tryd.func12, Tryd.ntmps12
  go_wp2_with (go_at_call 31; refine (unhide HB).mono ?_; rintro e w1 ⟨rfl, hB1⟩; have h2 := (hB1.cell (p := ⟨gb, len, none⟩) hgb).trans (unhide H2))
  go_ret
  exact ⟨rfl, hB1⟩

set_option maxHeartbeats 1000000 in
theorem textDecodes_big {a : Option Addr} {len cap : Nat} {p : Int} (w : World) (h : 4000 < len) (hm : len ≤ maxLen) :
    Calls Tryd.prog 3 #[.slice a len cap, .int .i64 p] w fun e w' => e = .returned (.bool true) ∧ Below w.heap.size w w' := by
  unfold maxLen at hm
  have h' : (4000 : Int) < len := by omega
  go_enter Tryd.func3, Tryd.ntmps3
  go_wp2
  go_ret
  exact ⟨rfl, Below.refl _ _⟩

set_option maxRecDepth 100000 in
set_option maxHeartbeats 2000000 in
theorem textDecodes_small {b : Nat} {a : Option Addr} {len cap : Nat} {g : Nat → Int} (hg : ∀ j, 0 ≤ g j ∧ g j ≤ 255) (p : Int) (w : World) (h : len ≤ 4000) (hS : Sl w b (.slice a len cap) len g) (hR : Src w (.slice a len cap) len g) (hb : b < w.heap.size) :
    Calls Tryd.prog 3 #[.slice a len cap, .int .i64 p] w fun e w' => e = .returned (.bool true) ∧ Below w.heap.size w w' := by
  have h' : ¬ (4000 : Int) < len := by omega
  have hB4 : decide ((4000 : Int) < len) = false := by simp; omega
  have HS := hide hS
  have HR := hide hR
  clear hS hR
  go_enter Tryd.func3, Tryd.ntmps3
  go_wp2
  go_loopw [5] (fun i wr => ∃ k : Nat, k ≤ len + 2 ∧ i = .int .i64 ((k : Int) - 1) ∧ Below w.heap.size w wr) (fun i _ => len + 2 - (intOf i + 1).toNat)
  case atStart => exact ⟨0, Nat.zero_le _, rfl, Below.refl _ _⟩
  case round =>
    obtain ⟨k, hk, rfl, hB⟩ := hrel
    have hSr : Hid (Sl wr b (.slice a len cap) len g) := (unhide HS).keep (fun k e => by subst e; exact hB.block k hb)
    by_cases hlt : k < len + 2
    · have hlt' : (k : Int) - 1 ≤ len := by omega
      go_wp2_with (first | (go_at_call 9; refine (decode_sl hg (unhide hSr) _).mono ?_; rintro e w1 ⟨rfl, rfl⟩) | (go_at_call 10; refine (rdecode_sl hg (unhide hSr) _).mono ?_; rintro e w2 ⟨rfl, hb2⟩))
      exact ⟨⟨k + 1, by omega, by congr 1; omega, (hB.trans (hb2.mono hB.size)).alloc (Nat.le_trans hB.size hb2.size) _⟩, by simp [intOf]; omega⟩
    · have hlt' : ¬ (k : Int) - 1 ≤ len := by omega
      have hRr : Hid (Src wr (.slice a len cap) len g) := by
        rcases unhide HR with h | ⟨ad, cap', h1, h2⟩
        · exact .inl h
        · exact .inr ⟨ad, cap', h1, fun j hj => (hB.cell (p := ad.add j) (World.block_lt_of_cell? w _ (h2 j hj))).trans (h2 j hj)⟩
      go_wp2_with (go_at_call 11; refine (roomy_any (by omega) (unhide hRr)).mono ?_; rintro e w1 ⟨gb, c', rfl, hgb, hc1, hc2, hcs, hcm, hB1⟩)
      have hgl : gb < w1.heap.size := World.block_lt_of_cell? _ _ hcm
      have hBw : Below w.heap.size w w1 := hB.trans (hB1.mono hB.size)
      have hS1 : Sl w1 b (.slice a len cap) len g := (unhide HS).keep (fun k e => by subst e; exact hBw.block k hb)
      have hSg : Sl w1 gb (.slice (some ⟨gb, 0, none⟩) len c') len g := by
        by_cases h0 : len = 0
        · exact .inl ⟨_, c', by rw [h0], h0⟩
        · exact .inr ⟨0, c', rfl, by omega, by omega, hc2, fun j hj => by rw [Nat.zero_add]; exact hcs j hj⟩
      have HS1 := hide hS1
      have HCS := hide hcs
      have HCM := hide hcm
      clear hS1 hcs hcm
      refine (decode_sl hg hSg p).mono ?_
      rintro e w1' ⟨rfl, hw⟩
      subst hw
      clear hSg
      go_wp2_with (go_at_call 10; refine (rdecode_sl hg (unhide HS1) _).mono ?_; rintro e w2 ⟨rfl, hb2⟩)
      have hB3 : Below w1'.heap.size w1' (w2.alloc (.cells #[.int .i64 p, .int .i32 (dRune g len p), .int .i64 (dSize g len p), .bool (dGood g len p)] 26)) := hb2.alloc hb2.size _
      have hBw3 := hBw.trans (hB3.mono hBw.size)
      refine (stands_any (b := b) (g := g) (by omega) ((unhide HS1).keep (fun k e => by subst e; exact hB3.block k (Nat.lt_of_lt_of_le hb hBw.size))) (Nat.lt_of_lt_of_le hb hBw3.size) hc1 (fun j hj => (hB3.cell (p := ⟨gb, j, none⟩) hgl).trans (unhide HCS j hj)) ((hB3.cell (p := ⟨gb, len, none⟩) hgl).trans (unhide HCM))).mono ?_
      rintro e w4 ⟨rfl, hB4'⟩
      go_wp2_with (go_at_call 13; refine (known_any _).mono ?_; rintro e w5 ⟨rfl, hB5⟩)
      go_ret
      have hBw4 := hBw3.trans (hB4'.mono hBw3.size)
      exact ⟨rfl, hBw4.trans (hB5.mono hBw4.size)⟩
end Go.Proofs.YtgcgaibncalknaaDoor

/- shucklaw2.known answers true, in whatever memory. -/
import Derived.Deep.QuietTactic
import Derived.BigQuiet
import Derived.Test.YtponficlejjafabDoorXE
namespace Go.Proofs.YtponficlejjafabDoor
set_option linter.unusedSimpArgs false
set_option linter.unusedVariables false
open Go.RowKit Go.Shelf

set_option maxRecDepth 100000 in
set_option maxHeartbeats 1000000 in
theorem lexknown_any (w : World) : Calls Tryd.prog 17 #[] w fun e w' => e = .returned (.bool true) ∧ Below w.heap.size w w' := by
  have hcv := conv_mark w #[.int .u8 108, .int .u8 101, .int .u8 116, .int .u8 32, .int .u8 120, .int .u8 32, .int .u8 61, .int .u8 32, .int .u8 34, .int .u8 97, .int .u8 92, .int .u8 110, .int .u8 34, .int .u8 59] 14 14
  have hBd : Below w.heap.size w (w.alloc (.cells #[.int .u8 108, .int .u8 101, .int .u8 116, .int .u8 32, .int .u8 120, .int .u8 32, .int .u8 61, .int .u8 32, .int .u8 34, .int .u8 97, .int .u8 92, .int .u8 110, .int .u8 34, .int .u8 59] 5 (14, 15))) := (Below.refl _ w).alloc (Nat.le_refl _) _
  have HT := hide (callsIn_wide.1 (tokens_in ⟨w.heap.size, 0, none⟩ 14 14 gT gT_bd (w.alloc (.cells #[.int .u8 108, .int .u8 101, .int .u8 116, .int .u8 32, .int .u8 120, .int .u8 32, .int .u8 61, .int .u8 32, .int .u8 34, .int .u8 97, .int .u8 92, .int .u8 110, .int .u8 34, .int .u8 59] 5 (14, 15))) (by decide) (fun j hj => by
    have h1 : (w.alloc (.cells #[.int .u8 108, .int .u8 101, .int .u8 116, .int .u8 32, .int .u8 120, .int .u8 32, .int .u8 61, .int .u8 32, .int .u8 34, .int .u8 97, .int .u8 92, .int .u8 110, .int .u8 34, .int .u8 59] 5 (14, 15))).heap[w.heap.size]? = some (.cells #[.int .u8 108, .int .u8 101, .int .u8 116, .int .u8 32, .int .u8 120, .int .u8 32, .int .u8 61, .int .u8 32, .int .u8 34, .int .u8 97, .int .u8 92, .int .u8 110, .int .u8 34, .int .u8 59] 5 (14, 15)) := World.alloc_heap_new w _
    rw [Addr.add_lit, Lib.cell_of_heap h1, Nat.zero_add]
    rcases (by omega : j = 0 ∨ j = 1 ∨ j = 2 ∨ j = 3 ∨ j = 4 ∨ j = 5 ∨ j = 6 ∨ j = 7 ∨ j = 8 ∨ j = 9 ∨ j = 10 ∨ j = 11 ∨ j = 12 ∨ j = 13) with rfl | rfl | rfl | rfl | rfl | rfl | rfl | rfl | rfl | rfl | rfl | rfl | rfl | rfl <;> rfl) RK (fun M c a cap => stepK M c a cap) (.inl ⟨rfl, rfl⟩)))
  go_enter Tryd.func17, Tryd.ntmps17
  go_wp2_with (go_at_call 13; refine (unhide HT).mono ?_; rintro e w1 ⟨⟨v, pre, rfl, hr, hown⟩, hB1⟩)
  obtain rfl : pre = [k1, k2, k3, k4, k5] := by
    rcases hr with ⟨h, _⟩ | ⟨h, _⟩ | ⟨h, _⟩ | ⟨h, _⟩ | ⟨h, _⟩ | ⟨h, _⟩ | ⟨h, _⟩ | ⟨h, _⟩ | ⟨_, h⟩ <;> first | exact h | (exact absurd h (by decide))
  obtain ⟨gw, cp, rfl, hcp, hcm2, hgl⟩ : ∃ gw cp, v = .slice (some ⟨gw, 0, none⟩) 6 cp ∧ 6 ≤ cp ∧ cp ≤ maxLen ∧ gw < w1.heap.size := by
    rcases hown.2 with ⟨_, h0⟩ | ⟨gw, cp, cr, h, _, h1, h2, h3, _⟩
    · simp at h0
    · exact ⟨gw, cp, h, h2, h3, (Array.getElem?_eq_some_iff.1 h1).1⟩
  have hcell : ∀ j u, (rowT ([k1, k2, k3, k4, k5] ++ [tokV 10 ⟨#[]⟩ 14 14]))[j]? = some u → w1.cell? ⟨gw, j, none⟩ = some u := fun j u hj => by
    have := hown.cells (g := gw) rfl j u hj
    rw [Addr.add_lit, Nat.zero_add] at this
    exact this
  have u0 : w1.cell? ⟨gw, 0, none⟩ = some (.int .i64 2) := hcell 0 _ rfl
  have u5 : w1.cell? ⟨gw, 5, none⟩ = some (.string ⟨#[120]⟩) := hcell 5 _ rfl
  have u13 : w1.cell? ⟨gw, 13, none⟩ = some (.string ⟨#[97, 10]⟩) := hcell 13 _ rfl
  have u15 : w1.cell? ⟨gw, 15, none⟩ = some (.int .i64 13) := hcell 15 _ rfl
  have u20 : w1.cell? ⟨gw, 20, none⟩ = some (.int .i64 10) := hcell 20 _ rfl
  unfold maxLen at hcm2
  clear hcell hown hcv HT hr
  have hl : ∀ W, (Builtin.len_ #[29] 3 #[.slice (some ⟨gw, 0, none⟩) 6 cp]).run Tryd.prog W = .ok (goInt 6) W := fun W => by
    have h := run_len_slice (P := Tryd.prog) (w := W) (t := 29) (ty := 3) (base := some ⟨gw, 0, none⟩) (n := 6) (c := cp) (h := (by kernel_rfl))
    exact h
  go_wp2
  rw [hl w1]
  go_wp2
  go_ret
  exact ⟨rfl, hBd.trans (hB1.mono (by simp))⟩
end Go.Proofs.YtponficlejjafabDoor

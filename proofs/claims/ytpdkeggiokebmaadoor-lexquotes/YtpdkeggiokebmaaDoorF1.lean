/- text.Decode and the document's Decode at any row of bytes, nil or not; and shucklaw1.bytes at two rows of the same bytes. -/
import Derived.Deep.QuietTactic
import Derived.BigQuiet
import Derived.Test.YtpdkeggiokebmaaDoorA3
import Derived.Test.YtpdkeggiokebmaaDoorB1
namespace Go.Proofs.YtpdkeggiokebmaaDoor
set_option linter.unusedSimpArgs false
set_option linter.unusedVariables false
open Go.RowKit

theorem Sl.len {W : World} {b : Nat} {sv : Value} {len : Nat} {g : Nat → Int} (h : Sl W b sv len g) : ∃ a cap, sv = .slice a len cap := by
  rcases h with ⟨a, cap, rfl, rfl⟩ | ⟨off, cap, rfl, _⟩
  · exact ⟨a, cap, rfl⟩
  · exact ⟨_, cap, rfl⟩

theorem decode_sl {w : World} {b : Nat} {sv : Value} {len : Nat} {g : Nat → Int} (hg : ∀ j, 0 ≤ g j ∧ g j ≤ 255) (hS : Sl w b sv len g) (p : Int) :
    Calls Tryd.prog 38 #[sv, .int .i64 p] w fun e w' => e = .returned (.tuple #[.int .i32 (dRune g len p), .int .i64 (dSize g len p), .bool (dGood g len p)]) ∧ w' = w := by
  cases hin : inside len p with
  | false =>
    obtain ⟨e1, e2, e3⟩ := dOut hin g
    rw [e1, e2, e3]
    rcases hS with ⟨a, cap, rfl, rfl⟩ | ⟨off, cap, rfl, h0, h1, h2, _⟩
    · exact decode_out a 0 cap p w (Nat.zero_le _) hin
    · exact decode_out _ len cap p w (Nat.le_trans h1 h2) hin
  | true =>
    have hp : 0 ≤ p ∧ p < len := by simpa [inside] using hin
    rcases hS with ⟨a, cap, rfl, rfl⟩ | ⟨off, cap, rfl, h0, h1, h2, hc⟩
    · omega
    · have := decode_in b off len cap p.toNat g hg w (by omega) h1 h2 hc
      rw [Int.toNat_of_nonneg hp.1] at this
      exact this

theorem rdecode_sl {w : World} {b : Nat} {sv : Value} {len : Nat} {g : Nat → Int} (hg : ∀ j, 0 ≤ g j ∧ g j ≤ 255) (hS : Sl w b sv len g) (p : Int) :
    Calls Tryd.prog 63 #[sv, .int .i64 p] w fun e w' => e = .returned (.agg #[.int .i64 p, .int .i32 (dRune g len p), .int .i64 (dSize g len p), .bool (dGood g len p)]) ∧ Below w.heap.size w w' := by
  cases hin : inside len p with
  | false =>
    obtain ⟨e1, e2, e3⟩ := dOut hin g
    rw [e1, e2, e3]
    rcases hS with ⟨a, cap, rfl, rfl⟩ | ⟨off, cap, rfl, h0, h1, h2, _⟩
    · exact rdecode_out a 0 cap p w (Nat.zero_le _) hin
    · exact rdecode_out _ len cap p w (Nat.le_trans h1 h2) hin
  | true =>
    have hp : 0 ≤ p ∧ p < len := by simpa [inside] using hin
    rcases hS with ⟨a, cap, rfl, rfl⟩ | ⟨off, cap, rfl, h0, h1, h2, hc⟩
    · omega
    · have := rdecode_in b off len cap p.toNat g hg w (by omega) h1 h2 hc
      rw [Int.toNat_of_nonneg hp.1] at this
      exact this

set_option maxHeartbeats 400000 in
theorem bytes_none (a1 a2 : Option Addr) (c1 c2 : Nat) (w : World) :
    Calls Tryd.prog 21 #[.slice a1 0 c1, .slice a2 0 c2] w fun e w' => e = .returned (.bool true) ∧ Below w.heap.size w w' := by
  go_enter Tryd.func21, Tryd.ntmps21
  go_wp2
  go_loop [5] (fun i => i = .int .i64 0) (fun _ => 0)
  case atStart => rfl
  case round =>
    obtain rfl := hrel
    go_wp2
    go_ret
    exact ⟨rfl, Below.refl _ _⟩

set_option maxHeartbeats 400000 in
theorem bytes_some (b1 off1 c1 b2 off2 c2 len : Nat) (g : Nat → Int) (w : World) (hlen : len ≤ maxLen) (h1 : ∀ j, j < len → w.cell? ⟨b1, off1 + j, none⟩ = some (.int .u8 (g j))) (h2 : ∀ j, j < len → w.cell? ⟨b2, off2 + j, none⟩ = some (.int .u8 (g j))) (hb1 : b1 < w.heap.size) (hb2 : b2 < w.heap.size) :
    Calls Tryd.prog 21 #[.slice (some ⟨b1, off1, none⟩) len c1, .slice (some ⟨b2, off2, none⟩) len c2] w fun e w' => e = .returned (.bool true) ∧ Below w.heap.size w w' := by
  unfold maxLen at hlen
  go_enter Tryd.func21, Tryd.ntmps21
  go_wp2
  go_loopw [5] (fun i wr => ∃ k : Nat, k ≤ len ∧ i = .int .i64 k ∧ Below w.heap.size w wr) (fun i _ => len - (intOf i).toNat)
  case atStart => exact ⟨0, Nat.zero_le _, rfl, Below.refl _ _⟩
  case round =>
    obtain ⟨k, hk, rfl, hB⟩ := hrel
    by_cases hlt : k < len
    · have d1 := (hB.cell (p := ⟨b1, off1 + k, none⟩) hb1).trans (h1 k hlt)
      have d2 := (hB.cell (p := ⟨b2, off2 + k, none⟩) hb2).trans (h2 k hlt)
      clear h1 h2
      have hlt' : (k : Int) < len := by omega
      go_wp2
      go_region
      go_wp2
      exact ⟨⟨k + 1, by omega, by go_num, hB.drew⟩, by simp [intOf]; omega⟩
    · have hlt' : ¬ (k : Int) < len := by omega
      go_wp2
      go_ret
      exact ⟨rfl, hB⟩
end Go.Proofs.YtpdkeggiokebmaaDoor

/- An arena that is nil; how many types an arena has. -/
import Derived.WalkMore
import Derived.LoopN
import Derived.Deep.QuietTactic
import Derived.BigQuiet
import Derived.StillTailTactics
import Derived.Test.YticdaphajanbbaaGreatDoorA1
namespace Go.Proofs.YticdaphajanbbaaGreatDoor
set_option linter.unusedSimpArgs false
set_option linter.unusedVariables false
set_option maxRecDepth 100000
set_option maxHeartbeats 1000000
open Go.RowKit

theorem len_nil (w : World) : Calls Tryz.prog 26 #[.pointer none] w fun e w' => e = .returned (.int .i64 0) ∧ w' = w := by
  go_enter Tryz.func26, Tryz.ntmps26
  go_wp2
  go_ret
  exact ⟨rfl, rfl⟩
theorem union_nil (w : World) (a : Option Addr) (n c : Nat) : Calls Tryz.prog 14 #[.pointer none, .slice a n c] w fun e w' => e = .returned (.tuple #[.int .i64 0, .int .i64 1]) ∧ w' = w := by
  go_enter Tryz.func14, Tryz.ntmps14
  go_wp2
  refine bodyPost_ret (v := .tuple #[.int .i64 0, .int .i64 1]) ?_ rfl ⟨rfl, rfl⟩
  simp [results, Tryz.results14, go_sem]
theorem pieces_nil (w : World) (id : Int) : Calls Tryz.prog 69 #[.pointer none, .int .i64 id] w fun e w' => e = .returned (.tuple #[.slice none 0 0, .int .i64 1]) ∧ w' = w := by
  go_enter Tryz.func69, Tryz.ntmps69
  go_wp2
  refine bodyPost_ret (v := .tuple #[.slice none 0 0, .int .i64 1]) ?_ rfl ⟨rfl, rfl⟩
  simp [results, Tryz.results69, go_sem]
theorem has_nil (w : World) (id : Int) : Calls Tryz.prog 44 #[.pointer none, .int .i64 id] w fun e w' => e = .returned (.bool false) ∧ w' = w := by
  by_cases h : 0 ≤ id
  · have h0 : ¬ id < 0 := by omega
    go_enter Tryz.func44, Tryz.ntmps44
    go_wp2_with (go_at_call 26; refine (len_nil _).mono ?_; rintro e w' ⟨rfl, rfl⟩)
    go_ret
    exact ⟨by simp; omega, rfl⟩
  · have h0 : ¬ id ≥ 0 := by omega
    go_enter Tryz.func44, Tryz.ntmps44
    go_wp2
    go_ret
    exact ⟨rfl, rfl⟩
theorem find_nil (w : World) (k n : Int) (s : ByteArray) (a b c : Option Addr) (an ac bn bc cn cc : Nat) : Calls Tryz.prog 72 #[.pointer none, .agg #[.int .i64 k, .int .i64 n, .string s, .slice a an ac, .slice b bn bc, .slice c cn cc]] w fun e w' => e = .returned (.tuple #[.int .i64 0, .int .i64 1]) ∧ Below w.heap.size w w' := by
  go_enter Tryz.func72, Tryz.ntmps72
  go_wp2
  refine bodyPost_ret (v := .tuple #[.int .i64 0, .int .i64 1]) ?_ rfl ⟨rfl, (Below.refl _ w).alloc (Nat.le_refl _) _⟩
  simp [results, Tryz.results72, go_sem]
/-- How many types an arena has. -/
theorem len_any (w : World) (M : Nat) (a : Option Addr) (n c : Nat) (h : w.cell? ⟨M, 0, none⟩ = some (.slice a n c)) : Calls Tryz.prog 26 #[.pointer (some ⟨M, 0, none⟩)] w fun e w' => e = .returned (.int .i64 (n : Int)) ∧ w' = w := by
  have hl := World.block_lt_of_cell? w _ h
  go_enter Tryz.func26, Tryz.ntmps26
  go_wp2
  go_ret
  exact ⟨rfl, rfl⟩
theorem has_any (w : World) (M : Nat) (a : Option Addr) (n c : Nat) (h : w.cell? ⟨M, 0, none⟩ = some (.slice a n c)) (id : Int) : Calls Tryz.prog 44 #[.pointer (some ⟨M, 0, none⟩), .int .i64 id] w fun e w' => e = .returned (.bool (decide (0 ≤ id ∧ id < (n : Int)))) ∧ w' = w := by
  have HL := hide (len_any w M a n c h)
  clear h
  by_cases h : 0 ≤ id
  · have h0 : ¬ id < 0 := by omega
    go_enter Tryz.func44, Tryz.ntmps44
    go_wp2_with (go_at_call 26; refine (unhide HL).mono ?_; rintro e w' ⟨rfl, rfl⟩)
    go_ret
    exact ⟨by simp [h], rfl⟩
  · have h0 : ¬ id ≥ 0 := by omega
    go_enter Tryz.func44, Tryz.ntmps44
    go_wp2
    go_ret
    exact ⟨by simp; omega, rfl⟩
/-- A number that no type has. -/
theorem has_no (w : World) (M : Nat) (a : Option Addr) (n c : Nat) (h : w.cell? ⟨M, 0, none⟩ = some (.slice a n c)) (id : Int) (hn : ¬ (0 ≤ id ∧ id < (n : Int))) : Calls Tryz.prog 44 #[.pointer (some ⟨M, 0, none⟩), .int .i64 id] w fun e w' => e = .returned (.bool false) ∧ w' = w := (has_any w M a n c h id).mono fun e w' ⟨h1, h2⟩ => ⟨by rw [h1, decide_eq_false hn], h2⟩
theorem pieces_no (w : World) (M : Nat) (a : Option Addr) (n c : Nat) (h : w.cell? ⟨M, 0, none⟩ = some (.slice a n c)) (id : Int) (hn : ¬ (0 ≤ id ∧ id < (n : Int))) : Calls Tryz.prog 69 #[.pointer (some ⟨M, 0, none⟩), .int .i64 id] w fun e w' => e = .returned (.tuple #[.slice none 0 0, .int .i64 11]) ∧ w' = w := by
  have HH := hide (has_no w M a n c h id hn)
  clear h hn
  go_enter Tryz.func69, Tryz.ntmps69
  go_wp2_with (go_at_call 44; refine (unhide HH).mono ?_; rintro e w' ⟨rfl, rfl⟩)
  refine bodyPost_ret (v := .tuple #[.slice none 0 0, .int .i64 11]) ?_ rfl ⟨rfl, rfl⟩
  simp [results, Tryz.results69, go_sem]
end Go.Proofs.YticdaphajanbbaaGreatDoor

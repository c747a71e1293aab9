/- Hexadecimal digits by internal/strconv, part 2. -/
import Derived.Test.YtponficlejjafaaDoorQ1
namespace Go.Proofs.YtponficlejjafaaDoor
set_option linter.unusedSimpArgs false
set_option linter.unusedVariables false
open Go.RowKit

set_option maxHeartbeats 400000 in
set_option maxRecDepth 100000 in
theorem fb_2 (w : World) (h : Tab w) :
    Calls Tryd.prog 52 #[.slice none 0 0, .int .u64 2, .int .i64 16, .bool false, .bool false] w fun e w' => e = .returned (.tuple #[.slice none 0 0, .string ⟨#[50]⟩]) ∧ Below w.heap.size w w' := by
  have hc := conv1 w
  go_enter Tryd.func52, Tryd.ntmps52
  go_wp2_with (first | (go_at_call 56; refine (p2 _).mono ?_; rintro e w' ⟨rfl, rfl⟩) | (go_at_call 57; refine (tz _ (h.alloc _)).mono ?_; rintro e w' ⟨rfl, rfl⟩))
  refine wp_loop_rounds 1 ?_
  rw [rounds_succ]
  go_wp2
  go_ret2
  exact ⟨rfl, (Below.refl _ _).alloc (Nat.le_refl _) _⟩

set_option maxHeartbeats 400000 in
theorem fi_2 (w : World) (h : Tab w) : Calls Tryd.prog 48 #[.int .i64 2, .int .i64 16] w fun e w' => e = .returned (.string ⟨#[50]⟩) ∧ Below w.heap.size w w' := by
  go_enter Tryd.func48, Tryd.ntmps48
  go_wp2_with (go_at_call 52; refine (fb_2 _ (by first | exact h | exact h.alloc _)).mono ?_; rintro e w' ⟨rfl, hB⟩)
  go_ret
  exact ⟨rfl, hB⟩
set_option maxHeartbeats 400000 in
theorem fj_2 (w : World) (h : Tab w) : Calls Tryd.prog 46 #[.int .i64 2, .int .i64 16] w fun e w' => e = .returned (.string ⟨#[50]⟩) ∧ Below w.heap.size w w' := by
  go_enter Tryd.func46, Tryd.ntmps46
  go_wp2_with (go_at_call 48; refine (fi_2 w h).mono ?_; rintro e w' ⟨rfl, hB⟩)
  go_ret
  exact ⟨rfl, hB⟩
set_option maxHeartbeats 400000 in
theorem qt_2 (w : World) (h : Tab w) : Calls Tryd.prog 40 #[.int .i32 2] w fun e w' => e = .returned (.string ⟨#[92, 117, 123, 50, 125]⟩) ∧ Below w.heap.size w w' := by
  go_enter Tryd.func40, Tryd.ntmps40
  go_wp2_with (go_at_call 46; refine (fj_2 w h).mono ?_; rintro e w' ⟨rfl, hB⟩)
  go_ret
  exact ⟨rfl, hB⟩
set_option maxHeartbeats 400000 in
theorem hx_2 (w : World) : Calls Tryd.prog 42 #[.int .i64 2] w fun e w' => e = .returned (.string ⟨#[50]⟩) ∧ w' = w := by
  go_enter Tryd.func42, Tryd.ntmps42
  go_wp2
  refine wp_loop_rounds 1 ?_
  rw [rounds_succ]
  go_wp2
  go_ret
  exact ⟨rfl, rfl⟩

set_option maxHeartbeats 400000 in
set_option maxRecDepth 100000 in
theorem fb_7 (w : World) (h : Tab w) :
    Calls Tryd.prog 52 #[.slice none 0 0, .int .u64 7, .int .i64 16, .bool false, .bool false] w fun e w' => e = .returned (.tuple #[.slice none 0 0, .string ⟨#[55]⟩]) ∧ Below w.heap.size w w' := by
  have hc := conv1 w
  go_enter Tryd.func52, Tryd.ntmps52
  go_wp2_with (first | (go_at_call 56; refine (p2 _).mono ?_; rintro e w' ⟨rfl, rfl⟩) | (go_at_call 57; refine (tz _ (h.alloc _)).mono ?_; rintro e w' ⟨rfl, rfl⟩))
  refine wp_loop_rounds 1 ?_
  rw [rounds_succ]
  go_wp2
  go_ret2
  exact ⟨rfl, (Below.refl _ _).alloc (Nat.le_refl _) _⟩

set_option maxHeartbeats 400000 in
theorem fi_7 (w : World) (h : Tab w) : Calls Tryd.prog 48 #[.int .i64 7, .int .i64 16] w fun e w' => e = .returned (.string ⟨#[55]⟩) ∧ Below w.heap.size w w' := by
  go_enter Tryd.func48, Tryd.ntmps48
  go_wp2_with (go_at_call 52; refine (fb_7 _ (by first | exact h | exact h.alloc _)).mono ?_; rintro e w' ⟨rfl, hB⟩)
  go_ret
  exact ⟨rfl, hB⟩
set_option maxHeartbeats 400000 in
theorem fj_7 (w : World) (h : Tab w) : Calls Tryd.prog 46 #[.int .i64 7, .int .i64 16] w fun e w' => e = .returned (.string ⟨#[55]⟩) ∧ Below w.heap.size w w' := by
  go_enter Tryd.func46, Tryd.ntmps46
  go_wp2_with (go_at_call 48; refine (fi_7 w h).mono ?_; rintro e w' ⟨rfl, hB⟩)
  go_ret
  exact ⟨rfl, hB⟩
set_option maxHeartbeats 400000 in
theorem qt_7 (w : World) (h : Tab w) : Calls Tryd.prog 40 #[.int .i32 7] w fun e w' => e = .returned (.string ⟨#[92, 117, 123, 55, 125]⟩) ∧ Below w.heap.size w w' := by
  go_enter Tryd.func40, Tryd.ntmps40
  go_wp2_with (go_at_call 46; refine (fj_7 w h).mono ?_; rintro e w' ⟨rfl, hB⟩)
  go_ret
  exact ⟨rfl, hB⟩
set_option maxHeartbeats 400000 in
theorem hx_7 (w : World) : Calls Tryd.prog 42 #[.int .i64 7] w fun e w' => e = .returned (.string ⟨#[55]⟩) ∧ w' = w := by
  go_enter Tryd.func42, Tryd.ntmps42
  go_wp2
  refine wp_loop_rounds 1 ?_
  rw [rounds_succ]
  go_wp2
  go_ret
  exact ⟨rfl, rfl⟩

set_option maxHeartbeats 400000 in
set_option maxRecDepth 100000 in
theorem fb_15 (w : World) (h : Tab w) :
    Calls Tryd.prog 52 #[.slice none 0 0, .int .u64 15, .int .i64 16, .bool false, .bool false] w fun e w' => e = .returned (.tuple #[.slice none 0 0, .string ⟨#[102]⟩]) ∧ Below w.heap.size w w' := by
  have hc := conv1 w
  go_enter Tryd.func52, Tryd.ntmps52
  go_wp2_with (first | (go_at_call 56; refine (p2 _).mono ?_; rintro e w' ⟨rfl, rfl⟩) | (go_at_call 57; refine (tz _ (h.alloc _)).mono ?_; rintro e w' ⟨rfl, rfl⟩))
  refine wp_loop_rounds 1 ?_
  rw [rounds_succ]
  go_wp2
  go_ret2
  exact ⟨rfl, (Below.refl _ _).alloc (Nat.le_refl _) _⟩

set_option maxHeartbeats 400000 in
theorem fi_15 (w : World) (h : Tab w) : Calls Tryd.prog 48 #[.int .i64 15, .int .i64 16] w fun e w' => e = .returned (.string ⟨#[102]⟩) ∧ Below w.heap.size w w' := by
  go_enter Tryd.func48, Tryd.ntmps48
  go_wp2_with (go_at_call 52; refine (fb_15 _ (by first | exact h | exact h.alloc _)).mono ?_; rintro e w' ⟨rfl, hB⟩)
  go_ret
  exact ⟨rfl, hB⟩
set_option maxHeartbeats 400000 in
theorem fj_15 (w : World) (h : Tab w) : Calls Tryd.prog 46 #[.int .i64 15, .int .i64 16] w fun e w' => e = .returned (.string ⟨#[102]⟩) ∧ Below w.heap.size w w' := by
  go_enter Tryd.func46, Tryd.ntmps46
  go_wp2_with (go_at_call 48; refine (fi_15 w h).mono ?_; rintro e w' ⟨rfl, hB⟩)
  go_ret
  exact ⟨rfl, hB⟩
set_option maxHeartbeats 400000 in
theorem qt_15 (w : World) (h : Tab w) : Calls Tryd.prog 40 #[.int .i32 15] w fun e w' => e = .returned (.string ⟨#[92, 117, 123, 102, 125]⟩) ∧ Below w.heap.size w w' := by
  go_enter Tryd.func40, Tryd.ntmps40
  go_wp2_with (go_at_call 46; refine (fj_15 w h).mono ?_; rintro e w' ⟨rfl, hB⟩)
  go_ret
  exact ⟨rfl, hB⟩
set_option maxHeartbeats 400000 in
theorem hx_15 (w : World) : Calls Tryd.prog 42 #[.int .i64 15] w fun e w' => e = .returned (.string ⟨#[102]⟩) ∧ w' = w := by
  go_enter Tryd.func42, Tryd.ntmps42
  go_wp2
  refine wp_loop_rounds 1 ?_
  rw [rounds_succ]
  go_wp2
  go_ret
  exact ⟨rfl, rfl⟩

set_option maxHeartbeats 400000 in
set_option maxRecDepth 100000 in
theorem fb_20 (w : World) (h : Tab w) :
    Calls Tryd.prog 52 #[.slice none 0 0, .int .u64 20, .int .i64 16, .bool false, .bool false] w fun e w' => e = .returned (.tuple #[.slice none 0 0, .string ⟨#[49, 52]⟩]) ∧ Below w.heap.size w w' := by
  have hc := conv2 w
  go_enter Tryd.func52, Tryd.ntmps52
  go_wp2_with (first | (go_at_call 56; refine (p2 _).mono ?_; rintro e w' ⟨rfl, rfl⟩) | (go_at_call 57; refine (tz _ (h.alloc _)).mono ?_; rintro e w' ⟨rfl, rfl⟩))
  refine wp_loop_rounds 2 ?_
  rw [rounds_succ]
  go_wp2
  rw [rounds_succ]
  go_wp2
  go_ret2
  exact ⟨rfl, (Below.refl _ _).alloc (Nat.le_refl _) _⟩

set_option maxHeartbeats 400000 in
theorem fi_20 (w : World) (h : Tab w) : Calls Tryd.prog 48 #[.int .i64 20, .int .i64 16] w fun e w' => e = .returned (.string ⟨#[49, 52]⟩) ∧ Below w.heap.size w w' := by
  go_enter Tryd.func48, Tryd.ntmps48
  go_wp2_with (go_at_call 52; refine (fb_20 _ (by first | exact h | exact h.alloc _)).mono ?_; rintro e w' ⟨rfl, hB⟩)
  go_ret
  exact ⟨rfl, hB⟩
set_option maxHeartbeats 400000 in
theorem fj_20 (w : World) (h : Tab w) : Calls Tryd.prog 46 #[.int .i64 20, .int .i64 16] w fun e w' => e = .returned (.string ⟨#[49, 52]⟩) ∧ Below w.heap.size w w' := by
  go_enter Tryd.func46, Tryd.ntmps46
  go_wp2_with (go_at_call 48; refine (fi_20 w h).mono ?_; rintro e w' ⟨rfl, hB⟩)
  go_ret
  exact ⟨rfl, hB⟩
set_option maxHeartbeats 400000 in
theorem qt_20 (w : World) (h : Tab w) : Calls Tryd.prog 40 #[.int .i32 20] w fun e w' => e = .returned (.string ⟨#[92, 117, 123, 49, 52, 125]⟩) ∧ Below w.heap.size w w' := by
  go_enter Tryd.func40, Tryd.ntmps40
  go_wp2_with (go_at_call 46; refine (fj_20 w h).mono ?_; rintro e w' ⟨rfl, hB⟩)
  go_ret
  exact ⟨rfl, hB⟩
set_option maxHeartbeats 400000 in
theorem hx_20 (w : World) : Calls Tryd.prog 42 #[.int .i64 20] w fun e w' => e = .returned (.string ⟨#[49, 52]⟩) ∧ w' = w := by
  go_enter Tryd.func42, Tryd.ntmps42
  go_wp2
  refine wp_loop_rounds 2 ?_
  rw [rounds_succ]
  go_wp2
  rw [rounds_succ]
  go_wp2
  go_ret
  exact ⟨rfl, rfl⟩

set_option maxHeartbeats 400000 in
set_option maxRecDepth 100000 in
theorem fb_25 (w : World) (h : Tab w) :
    Calls Tryd.prog 52 #[.slice none 0 0, .int .u64 25, .int .i64 16, .bool false, .bool false] w fun e w' => e = .returned (.tuple #[.slice none 0 0, .string ⟨#[49, 57]⟩]) ∧ Below w.heap.size w w' := by
  have hc := conv2 w
  go_enter Tryd.func52, Tryd.ntmps52
  go_wp2_with (first | (go_at_call 56; refine (p2 _).mono ?_; rintro e w' ⟨rfl, rfl⟩) | (go_at_call 57; refine (tz _ (h.alloc _)).mono ?_; rintro e w' ⟨rfl, rfl⟩))
  refine wp_loop_rounds 2 ?_
  rw [rounds_succ]
  go_wp2
  rw [rounds_succ]
  go_wp2
  go_ret2
  exact ⟨rfl, (Below.refl _ _).alloc (Nat.le_refl _) _⟩

set_option maxHeartbeats 400000 in
theorem fi_25 (w : World) (h : Tab w) : Calls Tryd.prog 48 #[.int .i64 25, .int .i64 16] w fun e w' => e = .returned (.string ⟨#[49, 57]⟩) ∧ Below w.heap.size w w' := by
  go_enter Tryd.func48, Tryd.ntmps48
  go_wp2_with (go_at_call 52; refine (fb_25 _ (by first | exact h | exact h.alloc _)).mono ?_; rintro e w' ⟨rfl, hB⟩)
  go_ret
  exact ⟨rfl, hB⟩
set_option maxHeartbeats 400000 in
theorem fj_25 (w : World) (h : Tab w) : Calls Tryd.prog 46 #[.int .i64 25, .int .i64 16] w fun e w' => e = .returned (.string ⟨#[49, 57]⟩) ∧ Below w.heap.size w w' := by
  go_enter Tryd.func46, Tryd.ntmps46
  go_wp2_with (go_at_call 48; refine (fi_25 w h).mono ?_; rintro e w' ⟨rfl, hB⟩)
  go_ret
  exact ⟨rfl, hB⟩
set_option maxHeartbeats 400000 in
theorem qt_25 (w : World) (h : Tab w) : Calls Tryd.prog 40 #[.int .i32 25] w fun e w' => e = .returned (.string ⟨#[92, 117, 123, 49, 57, 125]⟩) ∧ Below w.heap.size w w' := by
  go_enter Tryd.func40, Tryd.ntmps40
  go_wp2_with (go_at_call 46; refine (fj_25 w h).mono ?_; rintro e w' ⟨rfl, hB⟩)
  go_ret
  exact ⟨rfl, hB⟩
set_option maxHeartbeats 400000 in
theorem hx_25 (w : World) : Calls Tryd.prog 42 #[.int .i64 25] w fun e w' => e = .returned (.string ⟨#[49, 57]⟩) ∧ w' = w := by
  go_enter Tryd.func42, Tryd.ntmps42
  go_wp2
  refine wp_loop_rounds 2 ?_
  rw [rounds_succ]
  go_wp2
  rw [rounds_succ]
  go_wp2
  go_ret
  exact ⟨rfl, rfl⟩

set_option maxHeartbeats 400000 in
set_option maxRecDepth 100000 in
theorem fb_30 (w : World) (h : Tab w) :
    Calls Tryd.prog 52 #[.slice none 0 0, .int .u64 30, .int .i64 16, .bool false, .bool false] w fun e w' => e = .returned (.tuple #[.slice none 0 0, .string ⟨#[49, 101]⟩]) ∧ Below w.heap.size w w' := by
  have hc := conv2 w
  go_enter Tryd.func52, Tryd.ntmps52
  go_wp2_with (first | (go_at_call 56; refine (p2 _).mono ?_; rintro e w' ⟨rfl, rfl⟩) | (go_at_call 57; refine (tz _ (h.alloc _)).mono ?_; rintro e w' ⟨rfl, rfl⟩))
  refine wp_loop_rounds 2 ?_
  rw [rounds_succ]
  go_wp2
  rw [rounds_succ]
  go_wp2
  go_ret2
  exact ⟨rfl, (Below.refl _ _).alloc (Nat.le_refl _) _⟩

set_option maxHeartbeats 400000 in
theorem fi_30 (w : World) (h : Tab w) : Calls Tryd.prog 48 #[.int .i64 30, .int .i64 16] w fun e w' => e = .returned (.string ⟨#[49, 101]⟩) ∧ Below w.heap.size w w' := by
  go_enter Tryd.func48, Tryd.ntmps48
  go_wp2_with (go_at_call 52; refine (fb_30 _ (by first | exact h | exact h.alloc _)).mono ?_; rintro e w' ⟨rfl, hB⟩)
  go_ret
  exact ⟨rfl, hB⟩
set_option maxHeartbeats 400000 in
theorem fj_30 (w : World) (h : Tab w) : Calls Tryd.prog 46 #[.int .i64 30, .int .i64 16] w fun e w' => e = .returned (.string ⟨#[49, 101]⟩) ∧ Below w.heap.size w w' := by
  go_enter Tryd.func46, Tryd.ntmps46
  go_wp2_with (go_at_call 48; refine (fi_30 w h).mono ?_; rintro e w' ⟨rfl, hB⟩)
  go_ret
  exact ⟨rfl, hB⟩
set_option maxHeartbeats 400000 in
theorem qt_30 (w : World) (h : Tab w) : Calls Tryd.prog 40 #[.int .i32 30] w fun e w' => e = .returned (.string ⟨#[92, 117, 123, 49, 101, 125]⟩) ∧ Below w.heap.size w w' := by
  go_enter Tryd.func40, Tryd.ntmps40
  go_wp2_with (go_at_call 46; refine (fj_30 w h).mono ?_; rintro e w' ⟨rfl, hB⟩)
  go_ret
  exact ⟨rfl, hB⟩
set_option maxHeartbeats 400000 in
theorem hx_30 (w : World) : Calls Tryd.prog 42 #[.int .i64 30] w fun e w' => e = .returned (.string ⟨#[49, 101]⟩) ∧ w' = w := by
  go_enter Tryd.func42, Tryd.ntmps42
  go_wp2
  refine wp_loop_rounds 2 ?_
  rw [rounds_succ]
  go_wp2
  rw [rounds_succ]
  go_wp2
  go_ret
  exact ⟨rfl, rfl⟩

end Go.Proofs.YtponficlejjafaaDoor

/- Hexadecimal digits by internal/strconv, part 4. -/
import Derived.Test.YtponficlejjafaaDoorQ1
namespace Go.Proofs.YtponficlejjafaaDoor
set_option linter.unusedSimpArgs false
set_option linter.unusedVariables false
open Go.RowKit

set_option maxHeartbeats 400000 in
set_option maxRecDepth 100000 in
theorem fb_4 (w : World) (h : Tab w) :
    Calls Tryd.prog 52 #[.slice none 0 0, .int .u64 4, .int .i64 16, .bool false, .bool false] w fun e w' => e = .returned (.tuple #[.slice none 0 0, .string ⟨#[52]⟩]) ∧ Below w.heap.size w w' := by
  have hc := conv1 w
  go_enter Tryd.func52, Tryd.ntmps52
  go_wp2_with (first | (go_at_call 56; refine (p2 _).mono ?_; rintro e w' ⟨rfl, rfl⟩) | (go_at_call 57; refine (tz _ (h.alloc _)).mono ?_; rintro e w' ⟨rfl, rfl⟩))
  refine wp_loop_rounds 1 ?_
  rw [rounds_succ]
  go_wp2
  go_ret2
  exact ⟨rfl, (Below.refl _ _).alloc (Nat.le_refl _) _⟩

set_option maxHeartbeats 400000 in
theorem fi_4 (w : World) (h : Tab w) : Calls Tryd.prog 48 #[.int .i64 4, .int .i64 16] w fun e w' => e = .returned (.string ⟨#[52]⟩) ∧ Below w.heap.size w w' := by
  go_enter Tryd.func48, Tryd.ntmps48
  go_wp2_with (go_at_call 52; refine (fb_4 _ (by first | exact h | exact h.alloc _)).mono ?_; rintro e w' ⟨rfl, hB⟩)
  go_ret
  exact ⟨rfl, hB⟩
set_option maxHeartbeats 400000 in
theorem fj_4 (w : World) (h : Tab w) : Calls Tryd.prog 46 #[.int .i64 4, .int .i64 16] w fun e w' => e = .returned (.string ⟨#[52]⟩) ∧ Below w.heap.size w w' := by
  go_enter Tryd.func46, Tryd.ntmps46
  go_wp2_with (go_at_call 48; refine (fi_4 w h).mono ?_; rintro e w' ⟨rfl, hB⟩)
  go_ret
  exact ⟨rfl, hB⟩
set_option maxHeartbeats 400000 in
theorem qt_4 (w : World) (h : Tab w) : Calls Tryd.prog 40 #[.int .i32 4] w fun e w' => e = .returned (.string ⟨#[92, 117, 123, 52, 125]⟩) ∧ Below w.heap.size w w' := by
  go_enter Tryd.func40, Tryd.ntmps40
  go_wp2_with (go_at_call 46; refine (fj_4 w h).mono ?_; rintro e w' ⟨rfl, hB⟩)
  go_ret
  exact ⟨rfl, hB⟩
set_option maxHeartbeats 400000 in
theorem hx_4 (w : World) : Calls Tryd.prog 42 #[.int .i64 4] w fun e w' => e = .returned (.string ⟨#[52]⟩) ∧ w' = w := by
  go_enter Tryd.func42, Tryd.ntmps42
  go_wp2
  refine wp_loop_rounds 1 ?_
  rw [rounds_succ]
  go_wp2
  go_ret
  exact ⟨rfl, rfl⟩

set_option maxHeartbeats 400000 in
set_option maxRecDepth 100000 in
theorem fb_11 (w : World) (h : Tab w) :
    Calls Tryd.prog 52 #[.slice none 0 0, .int .u64 11, .int .i64 16, .bool false, .bool false] w fun e w' => e = .returned (.tuple #[.slice none 0 0, .string ⟨#[98]⟩]) ∧ Below w.heap.size w w' := by
  have hc := conv1 w
  go_enter Tryd.func52, Tryd.ntmps52
  go_wp2_with (first | (go_at_call 56; refine (p2 _).mono ?_; rintro e w' ⟨rfl, rfl⟩) | (go_at_call 57; refine (tz _ (h.alloc _)).mono ?_; rintro e w' ⟨rfl, rfl⟩))
  refine wp_loop_rounds 1 ?_
  rw [rounds_succ]
  go_wp2
  go_ret2
  exact ⟨rfl, (Below.refl _ _).alloc (Nat.le_refl _) _⟩

set_option maxHeartbeats 400000 in
theorem fi_11 (w : World) (h : Tab w) : Calls Tryd.prog 48 #[.int .i64 11, .int .i64 16] w fun e w' => e = .returned (.string ⟨#[98]⟩) ∧ Below w.heap.size w w' := by
  go_enter Tryd.func48, Tryd.ntmps48
  go_wp2_with (go_at_call 52; refine (fb_11 _ (by first | exact h | exact h.alloc _)).mono ?_; rintro e w' ⟨rfl, hB⟩)
  go_ret
  exact ⟨rfl, hB⟩
set_option maxHeartbeats 400000 in
theorem fj_11 (w : World) (h : Tab w) : Calls Tryd.prog 46 #[.int .i64 11, .int .i64 16] w fun e w' => e = .returned (.string ⟨#[98]⟩) ∧ Below w.heap.size w w' := by
  go_enter Tryd.func46, Tryd.ntmps46
  go_wp2_with (go_at_call 48; refine (fi_11 w h).mono ?_; rintro e w' ⟨rfl, hB⟩)
  go_ret
  exact ⟨rfl, hB⟩
set_option maxHeartbeats 400000 in
theorem qt_11 (w : World) (h : Tab w) : Calls Tryd.prog 40 #[.int .i32 11] w fun e w' => e = .returned (.string ⟨#[92, 117, 123, 98, 125]⟩) ∧ Below w.heap.size w w' := by
  go_enter Tryd.func40, Tryd.ntmps40
  go_wp2_with (go_at_call 46; refine (fj_11 w h).mono ?_; rintro e w' ⟨rfl, hB⟩)
  go_ret
  exact ⟨rfl, hB⟩
set_option maxHeartbeats 400000 in
theorem hx_11 (w : World) : Calls Tryd.prog 42 #[.int .i64 11] w fun e w' => e = .returned (.string ⟨#[98]⟩) ∧ w' = w := by
  go_enter Tryd.func42, Tryd.ntmps42
  go_wp2
  refine wp_loop_rounds 1 ?_
  rw [rounds_succ]
  go_wp2
  go_ret
  exact ⟨rfl, rfl⟩

set_option maxHeartbeats 400000 in
set_option maxRecDepth 100000 in
theorem fb_17 (w : World) (h : Tab w) :
    Calls Tryd.prog 52 #[.slice none 0 0, .int .u64 17, .int .i64 16, .bool false, .bool false] w fun e w' => e = .returned (.tuple #[.slice none 0 0, .string ⟨#[49, 49]⟩]) ∧ Below w.heap.size w w' := by
  have hc := conv2 w
  go_enter Tryd.func52, Tryd.ntmps52
  go_wp2_with (first | (go_at_call 56; refine (p2 _).mono ?_; rintro e w' ⟨rfl, rfl⟩) | (go_at_call 57; refine (tz _ (h.alloc _)).mono ?_; rintro e w' ⟨rfl, rfl⟩))
  refine wp_loop_rounds 2 ?_
  rw [rounds_succ]
  go_wp2
  rw [rounds_succ]
  go_wp2
  go_ret2
  exact ⟨rfl, (Below.refl _ _).alloc (Nat.le_refl _) _⟩

set_option maxHeartbeats 400000 in
theorem fi_17 (w : World) (h : Tab w) : Calls Tryd.prog 48 #[.int .i64 17, .int .i64 16] w fun e w' => e = .returned (.string ⟨#[49, 49]⟩) ∧ Below w.heap.size w w' := by
  go_enter Tryd.func48, Tryd.ntmps48
  go_wp2_with (go_at_call 52; refine (fb_17 _ (by first | exact h | exact h.alloc _)).mono ?_; rintro e w' ⟨rfl, hB⟩)
  go_ret
  exact ⟨rfl, hB⟩
set_option maxHeartbeats 400000 in
theorem fj_17 (w : World) (h : Tab w) : Calls Tryd.prog 46 #[.int .i64 17, .int .i64 16] w fun e w' => e = .returned (.string ⟨#[49, 49]⟩) ∧ Below w.heap.size w w' := by
  go_enter Tryd.func46, Tryd.ntmps46
  go_wp2_with (go_at_call 48; refine (fi_17 w h).mono ?_; rintro e w' ⟨rfl, hB⟩)
  go_ret
  exact ⟨rfl, hB⟩
set_option maxHeartbeats 400000 in
theorem qt_17 (w : World) (h : Tab w) : Calls Tryd.prog 40 #[.int .i32 17] w fun e w' => e = .returned (.string ⟨#[92, 117, 123, 49, 49, 125]⟩) ∧ Below w.heap.size w w' := by
  go_enter Tryd.func40, Tryd.ntmps40
  go_wp2_with (go_at_call 46; refine (fj_17 w h).mono ?_; rintro e w' ⟨rfl, hB⟩)
  go_ret
  exact ⟨rfl, hB⟩
set_option maxHeartbeats 400000 in
theorem hx_17 (w : World) : Calls Tryd.prog 42 #[.int .i64 17] w fun e w' => e = .returned (.string ⟨#[49, 49]⟩) ∧ w' = w := by
  go_enter Tryd.func42, Tryd.ntmps42
  go_wp2
  refine wp_loop_rounds 2 ?_
  rw [rounds_succ]
  go_wp2
  rw [rounds_succ]
  go_wp2
  go_ret
  exact ⟨rfl, rfl⟩

set_option maxHeartbeats 400000 in
set_option maxRecDepth 100000 in
theorem fb_22 (w : World) (h : Tab w) :
    Calls Tryd.prog 52 #[.slice none 0 0, .int .u64 22, .int .i64 16, .bool false, .bool false] w fun e w' => e = .returned (.tuple #[.slice none 0 0, .string ⟨#[49, 54]⟩]) ∧ Below w.heap.size w w' := by
  have hc := conv2 w
  go_enter Tryd.func52, Tryd.ntmps52
  go_wp2_with (first | (go_at_call 56; refine (p2 _).mono ?_; rintro e w' ⟨rfl, rfl⟩) | (go_at_call 57; refine (tz _ (h.alloc _)).mono ?_; rintro e w' ⟨rfl, rfl⟩))
  refine wp_loop_rounds 2 ?_
  rw [rounds_succ]
  go_wp2
  rw [rounds_succ]
  go_wp2
  go_ret2
  exact ⟨rfl, (Below.refl _ _).alloc (Nat.le_refl _) _⟩

set_option maxHeartbeats 400000 in
theorem fi_22 (w : World) (h : Tab w) : Calls Tryd.prog 48 #[.int .i64 22, .int .i64 16] w fun e w' => e = .returned (.string ⟨#[49, 54]⟩) ∧ Below w.heap.size w w' := by
  go_enter Tryd.func48, Tryd.ntmps48
  go_wp2_with (go_at_call 52; refine (fb_22 _ (by first | exact h | exact h.alloc _)).mono ?_; rintro e w' ⟨rfl, hB⟩)
  go_ret
  exact ⟨rfl, hB⟩
set_option maxHeartbeats 400000 in
theorem fj_22 (w : World) (h : Tab w) : Calls Tryd.prog 46 #[.int .i64 22, .int .i64 16] w fun e w' => e = .returned (.string ⟨#[49, 54]⟩) ∧ Below w.heap.size w w' := by
  go_enter Tryd.func46, Tryd.ntmps46
  go_wp2_with (go_at_call 48; refine (fi_22 w h).mono ?_; rintro e w' ⟨rfl, hB⟩)
  go_ret
  exact ⟨rfl, hB⟩
set_option maxHeartbeats 400000 in
theorem qt_22 (w : World) (h : Tab w) : Calls Tryd.prog 40 #[.int .i32 22] w fun e w' => e = .returned (.string ⟨#[92, 117, 123, 49, 54, 125]⟩) ∧ Below w.heap.size w w' := by
  go_enter Tryd.func40, Tryd.ntmps40
  go_wp2_with (go_at_call 46; refine (fj_22 w h).mono ?_; rintro e w' ⟨rfl, hB⟩)
  go_ret
  exact ⟨rfl, hB⟩
set_option maxHeartbeats 400000 in
theorem hx_22 (w : World) : Calls Tryd.prog 42 #[.int .i64 22] w fun e w' => e = .returned (.string ⟨#[49, 54]⟩) ∧ w' = w := by
  go_enter Tryd.func42, Tryd.ntmps42
  go_wp2
  refine wp_loop_rounds 2 ?_
  rw [rounds_succ]
  go_wp2
  rw [rounds_succ]
  go_wp2
  go_ret
  exact ⟨rfl, rfl⟩

set_option maxHeartbeats 400000 in
set_option maxRecDepth 100000 in
theorem fb_27 (w : World) (h : Tab w) :
    Calls Tryd.prog 52 #[.slice none 0 0, .int .u64 27, .int .i64 16, .bool false, .bool false] w fun e w' => e = .returned (.tuple #[.slice none 0 0, .string ⟨#[49, 98]⟩]) ∧ Below w.heap.size w w' := by
  have hc := conv2 w
  go_enter Tryd.func52, Tryd.ntmps52
  go_wp2_with (first | (go_at_call 56; refine (p2 _).mono ?_; rintro e w' ⟨rfl, rfl⟩) | (go_at_call 57; refine (tz _ (h.alloc _)).mono ?_; rintro e w' ⟨rfl, rfl⟩))
  refine wp_loop_rounds 2 ?_
  rw [rounds_succ]
  go_wp2
  rw [rounds_succ]
  go_wp2
  go_ret2
  exact ⟨rfl, (Below.refl _ _).alloc (Nat.le_refl _) _⟩

set_option maxHeartbeats 400000 in
theorem fi_27 (w : World) (h : Tab w) : Calls Tryd.prog 48 #[.int .i64 27, .int .i64 16] w fun e w' => e = .returned (.string ⟨#[49, 98]⟩) ∧ Below w.heap.size w w' := by
  go_enter Tryd.func48, Tryd.ntmps48
  go_wp2_with (go_at_call 52; refine (fb_27 _ (by first | exact h | exact h.alloc _)).mono ?_; rintro e w' ⟨rfl, hB⟩)
  go_ret
  exact ⟨rfl, hB⟩
set_option maxHeartbeats 400000 in
theorem fj_27 (w : World) (h : Tab w) : Calls Tryd.prog 46 #[.int .i64 27, .int .i64 16] w fun e w' => e = .returned (.string ⟨#[49, 98]⟩) ∧ Below w.heap.size w w' := by
  go_enter Tryd.func46, Tryd.ntmps46
  go_wp2_with (go_at_call 48; refine (fi_27 w h).mono ?_; rintro e w' ⟨rfl, hB⟩)
  go_ret
  exact ⟨rfl, hB⟩
set_option maxHeartbeats 400000 in
theorem qt_27 (w : World) (h : Tab w) : Calls Tryd.prog 40 #[.int .i32 27] w fun e w' => e = .returned (.string ⟨#[92, 117, 123, 49, 98, 125]⟩) ∧ Below w.heap.size w w' := by
  go_enter Tryd.func40, Tryd.ntmps40
  go_wp2_with (go_at_call 46; refine (fj_27 w h).mono ?_; rintro e w' ⟨rfl, hB⟩)
  go_ret
  exact ⟨rfl, hB⟩
set_option maxHeartbeats 400000 in
theorem hx_27 (w : World) : Calls Tryd.prog 42 #[.int .i64 27] w fun e w' => e = .returned (.string ⟨#[49, 98]⟩) ∧ w' = w := by
  go_enter Tryd.func42, Tryd.ntmps42
  go_wp2
  refine wp_loop_rounds 2 ?_
  rw [rounds_succ]
  go_wp2
  rw [rounds_succ]
  go_wp2
  go_ret
  exact ⟨rfl, rfl⟩

set_option maxHeartbeats 400000 in
set_option maxRecDepth 100000 in
theorem fb_127 (w : World) (h : Tab w) :
    Calls Tryd.prog 52 #[.slice none 0 0, .int .u64 127, .int .i64 16, .bool false, .bool false] w fun e w' => e = .returned (.tuple #[.slice none 0 0, .string ⟨#[55, 102]⟩]) ∧ Below w.heap.size w w' := by
  have hc := conv2 w
  go_enter Tryd.func52, Tryd.ntmps52
  go_wp2_with (first | (go_at_call 56; refine (p2 _).mono ?_; rintro e w' ⟨rfl, rfl⟩) | (go_at_call 57; refine (tz _ (h.alloc _)).mono ?_; rintro e w' ⟨rfl, rfl⟩))
  refine wp_loop_rounds 2 ?_
  rw [rounds_succ]
  go_wp2
  rw [rounds_succ]
  go_wp2
  go_ret2
  exact ⟨rfl, (Below.refl _ _).alloc (Nat.le_refl _) _⟩

set_option maxHeartbeats 400000 in
theorem fi_127 (w : World) (h : Tab w) : Calls Tryd.prog 48 #[.int .i64 127, .int .i64 16] w fun e w' => e = .returned (.string ⟨#[55, 102]⟩) ∧ Below w.heap.size w w' := by
  go_enter Tryd.func48, Tryd.ntmps48
  go_wp2_with (go_at_call 52; refine (fb_127 _ (by first | exact h | exact h.alloc _)).mono ?_; rintro e w' ⟨rfl, hB⟩)
  go_ret
  exact ⟨rfl, hB⟩
set_option maxHeartbeats 400000 in
theorem fj_127 (w : World) (h : Tab w) : Calls Tryd.prog 46 #[.int .i64 127, .int .i64 16] w fun e w' => e = .returned (.string ⟨#[55, 102]⟩) ∧ Below w.heap.size w w' := by
  go_enter Tryd.func46, Tryd.ntmps46
  go_wp2_with (go_at_call 48; refine (fi_127 w h).mono ?_; rintro e w' ⟨rfl, hB⟩)
  go_ret
  exact ⟨rfl, hB⟩
set_option maxHeartbeats 400000 in
theorem qt_127 (w : World) (h : Tab w) : Calls Tryd.prog 40 #[.int .i32 127] w fun e w' => e = .returned (.string ⟨#[92, 117, 123, 55, 102, 125]⟩) ∧ Below w.heap.size w w' := by
  go_enter Tryd.func40, Tryd.ntmps40
  go_wp2_with (go_at_call 46; refine (fj_127 w h).mono ?_; rintro e w' ⟨rfl, hB⟩)
  go_ret
  exact ⟨rfl, hB⟩
set_option maxHeartbeats 400000 in
theorem hx_127 (w : World) : Calls Tryd.prog 42 #[.int .i64 127] w fun e w' => e = .returned (.string ⟨#[55, 102]⟩) ∧ w' = w := by
  go_enter Tryd.func42, Tryd.ntmps42
  go_wp2
  refine wp_loop_rounds 2 ?_
  rw [rounds_succ]
  go_wp2
  rw [rounds_succ]
  go_wp2
  go_ret
  exact ⟨rfl, rfl⟩

end Go.Proofs.YtponficlejjafaaDoor

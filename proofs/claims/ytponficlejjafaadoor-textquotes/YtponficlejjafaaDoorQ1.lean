/- Hexadecimal digits of the numbers that text.quoted asks for: what internal/strconv needs. -/
import Derived.LoopN
import Derived.Test.YtponficlejjafaaDoorV0
namespace Go.Proofs.YtponficlejjafaaDoor
set_option linter.unusedSimpArgs false
set_option linter.unusedVariables false
open Go.RowKit

/-- The table's entry that is read at base 16. -/
def Tab (w : World) : Prop := w.cell? ⟨2, 15, none⟩ = some (.int .u8 4)
theorem Tab.below {w w' : World} (h : Tab w) (hb : Below w.heap.size w w') : Tab w' :=
  (hb.cell (p := ⟨2, 15, none⟩) (World.block_lt_of_cell? w _ h)).trans h
theorem Tab.alloc {w : World} (h : Tab w) (o : Obj) : Tab (w.alloc o) := h.below ((Below.refl _ w).alloc (Nat.le_refl _) o)

set_option maxHeartbeats 400000 in
theorem tz64 (w : World) (h : Tab w) : Calls Tryd.prog 59 #[.int .u64 16] w fun e w' => e = .returned (.int .i64 4) ∧ w' = w := by
  have hT : w.cell? ⟨2, 15, none⟩ = some (.int .u8 4) := h
  have a1 : IntKind.u64.wrap (-16) = 18446744073709551600 := by kernel_rfl
  have a2 : bits BinOp.and IntKind.u64 16 18446744073709551600 = 16 := by kernel_rfl
  have a3 : IntKind.u64.wrap 4573923408821661840 = 4573923408821661840 := by kernel_rfl
  go_enter Tryd.func59, Tryd.ntmps59
  go_wp2
  go_ret
  exact ⟨rfl, rfl⟩
set_option maxHeartbeats 400000 in
theorem tz (w : World) (h : Tab w) : Calls Tryd.prog 57 #[.int .u64 16] w fun e w' => e = .returned (.int .i64 4) ∧ w' = w := by
  go_enter Tryd.func57, Tryd.ntmps57
  go_wp2_with (go_at_call 59; refine (tz64 w h).mono ?_; rintro e w' ⟨rfl, rfl⟩)
  go_ret
  exact ⟨rfl, rfl⟩
set_option maxHeartbeats 400000 in
theorem p2 (w : World) : Calls Tryd.prog 56 #[.int .i64 16] w fun e w' => e = .returned (.bool true) ∧ w' = w := by
  go_enter Tryd.func56, Tryd.ntmps56
  go_wp2
  go_ret
  exact ⟨rfl, rfl⟩

theorem z89_size : Tryd.zeroCells89.size = 65 := by kernel_rfl
theorem conv1 (w : World) (v : Int) : (convert 22 9 (.slice (some ⟨w.heap.size, 64, none⟩) 1 1)).run Tryd.prog (w.alloc (.cells (Tryd.zeroCells89.setIfInBounds 64 (.int .u8 v)) 89)) = .ok (.string (strOfNums [v])) (w.alloc (.cells (Tryd.zeroCells89.setIfInBounds 64 (.int .u8 v)) 89)) := by
  have h : Src (w.alloc (.cells (Tryd.zeroCells89.setIfInBounds 64 (.int .u8 v)) 89)) (.slice (some ⟨w.heap.size, 64, none⟩) 1 1) 1 (fun _ => v) := .inr ⟨⟨w.heap.size, 64, none⟩, 1, rfl, fun j hj => by
    obtain rfl : j = 0 := by omega
    rw [Addr.add_lit, World.cell?_alloc_mark, Array.getElem?_setIfInBounds, z89_size]
    rfl⟩
  exact conv_run h
theorem conv2 (w : World) (v u : Int) : (convert 22 9 (.slice (some ⟨w.heap.size, 63, none⟩) 2 2)).run Tryd.prog (w.alloc (.cells ((Tryd.zeroCells89.setIfInBounds 64 (.int .u8 v)).setIfInBounds 63 (.int .u8 u)) 89)) = .ok (.string (strOfNums [u, v])) (w.alloc (.cells ((Tryd.zeroCells89.setIfInBounds 64 (.int .u8 v)).setIfInBounds 63 (.int .u8 u)) 89)) := by
  have h : Src (w.alloc (.cells ((Tryd.zeroCells89.setIfInBounds 64 (.int .u8 v)).setIfInBounds 63 (.int .u8 u)) 89)) (.slice (some ⟨w.heap.size, 63, none⟩) 2 2) 2 (fun j => if j = 0 then u else v) := .inr ⟨⟨w.heap.size, 63, none⟩, 2, rfl, fun j hj => by
    rcases (by omega : j = 0 ∨ j = 1) with rfl | rfl
    · rw [Addr.add_lit, World.cell?_alloc_mark, Array.getElem?_setIfInBounds, Array.size_setIfInBounds, z89_size]
      rfl
    · rw [Addr.add_lit, World.cell?_alloc_mark, Array.getElem?_setIfInBounds, if_neg (by decide), Array.getElem?_setIfInBounds, z89_size]
      rfl⟩
  exact conv_run h
end Go.Proofs.YtponficlejjafaaDoor

/- takesText, takesNum, placeOf: a row of the table asked, in whatever memory. -/
import Derived.Laws.EntriesVeiled
import Derived.Shelf.Abstract
import Derived.Test.YtnnpkomedpjlcaaGreatDoorT1
namespace Go.Proofs.YtnnpkomedpjlcaaGreatDoor
set_option linter.unusedSimpArgs false
set_option linter.unusedVariables false
open Go.RowKit Go.Shelf
def Ent (f : Nat) : Prop := ∀ args w, (callFunc f args).run Tryz.prog w = .ok (.enter f args) w
theorem fnn70 (f : Nat) (caps : Array Value) (w : World) : (binOp .eql 69 (.func (.func f) #[] caps) .nilFunc).run Tryz.prog w = .ok (.bool false) w := by kernel_rfl
theorem fnm70 (f : Nat) (caps : Array Value) (w : World) : (binOp .neq 69 (.func (.func f) #[] caps) .nilFunc).run Tryz.prog w = .ok (.bool true) w := by kernel_rfl
theorem nln70 (w : World) : (binOp .eql 69 .nilFunc .nilFunc).run Tryz.prog w = .ok (.bool true) w := by kernel_rfl
theorem nlm70 (w : World) : (binOp .neq 69 .nilFunc .nilFunc).run Tryz.prog w = .ok (.bool false) w := by kernel_rfl
theorem fnn43 (f : Nat) (caps : Array Value) (w : World) : (binOp .eql 45 (.func (.func f) #[] caps) .nilFunc).run Tryz.prog w = .ok (.bool false) w := by kernel_rfl
theorem fnm43 (f : Nat) (caps : Array Value) (w : World) : (binOp .neq 45 (.func (.func f) #[] caps) .nilFunc).run Tryz.prog w = .ok (.bool true) w := by kernel_rfl
theorem nln43 (w : World) : (binOp .eql 45 .nilFunc .nilFunc).run Tryz.prog w = .ok (.bool true) w := by kernel_rfl
theorem nlm43 (w : World) : (binOp .neq 45 .nilFunc .nilFunc).run Tryz.prog w = .ok (.bool false) w := by kernel_rfl
theorem fnn71 (f : Nat) (caps : Array Value) (w : World) : (binOp .eql 70 (.func (.func f) #[] caps) .nilFunc).run Tryz.prog w = .ok (.bool false) w := by kernel_rfl
theorem fnm71 (f : Nat) (caps : Array Value) (w : World) : (binOp .neq 70 (.func (.func f) #[] caps) .nilFunc).run Tryz.prog w = .ok (.bool true) w := by kernel_rfl
theorem nln71 (w : World) : (binOp .eql 70 .nilFunc .nilFunc).run Tryz.prog w = .ok (.bool true) w := by kernel_rfl
theorem nlm71 (w : World) : (binOp .neq 70 .nilFunc .nilFunc).run Tryz.prog w = .ok (.bool false) w := by kernel_rfl
theorem fnn73 (f : Nat) (caps : Array Value) (w : World) : (binOp .eql 72 (.func (.func f) #[] caps) .nilFunc).run Tryz.prog w = .ok (.bool false) w := by kernel_rfl
theorem fnm73 (f : Nat) (caps : Array Value) (w : World) : (binOp .neq 72 (.func (.func f) #[] caps) .nilFunc).run Tryz.prog w = .ok (.bool true) w := by kernel_rfl
theorem nln73 (w : World) : (binOp .eql 72 .nilFunc .nilFunc).run Tryz.prog w = .ok (.bool true) w := by kernel_rfl
theorem nlm73 (w : World) : (binOp .neq 72 .nilFunc .nilFunc).run Tryz.prog w = .ok (.bool false) w := by kernel_rfl
attribute [local go_sem] fnn70 fnm70 nln70 nlm70 fnn43 fnm43 nln43 nlm43 fnn71 fnm71 nln71 nlm71 fnn73 fnm73 nln73 nlm73

set_option maxRecDepth 100000 in
theorem takesText_some (f : Nat) (p : ByteArray → Bool) (hf : TextOk f p) (ey : Ent f) (x1 x2 x3 x4 x5 x6 x7 : Value) (s : ByteArray) (hs : s.size ≤ 4294967280) (W : World) :
    Calls Tryz.prog 53 #[.agg #[.func (.func f) #[] #[], x1, x2, x3, x4, x5, x6, x7], .string s] W fun e w' => e = .returned (.bool (p s)) ∧ Below W.heap.size W w' := by
  have ey' : ∀ args w, (callFunc f args).run Tryz.prog w = .ok (.enter f args) w := ey
  have HF := hide hf
  clear hf
  go_enter Tryz.func53, Tryz.ntmps53
  go_wp2_with (refine (unhide HF _ s hs).mono ?_; rintro e w2 ⟨rfl, hB⟩)
  go_ret
  exact ⟨rfl, ((Below.refl _ W).alloc (Nat.le_refl _) _).trans (hB.mono (by simp))⟩
set_option maxRecDepth 100000 in
theorem takesText_none (x1 x2 x3 x4 x5 x6 x7 : Value) (s : ByteArray) (W : World) :
    Calls Tryz.prog 53 #[.agg #[.nilFunc, x1, x2, x3, x4, x5, x6, x7], .string s] W fun e w' => e = .returned (.bool s.toList.isEmpty) ∧ Below W.heap.size W w' := by
  go_enter Tryz.func53, Tryz.ntmps53
  go_wp2
  go_ret
  exact ⟨rfl, (Below.refl _ W).alloc (Nat.le_refl _) _⟩
set_option maxRecDepth 100000 in
theorem takesNum_some (f : Nat) (p : Int → Bool) (hf : IntOk f p) (ey : Ent f) (x0 x2 x3 x4 x5 x6 x7 : Value) (n : Int) (W : World) :
    Calls Tryz.prog 54 #[.agg #[x0, .func (.func f) #[] #[], x2, x3, x4, x5, x6, x7], .int .i64 n] W fun e w' => e = .returned (.bool (p n)) ∧ Below W.heap.size W w' := by
  have ey' : ∀ args w, (callFunc f args).run Tryz.prog w = .ok (.enter f args) w := ey
  have HF := hide hf
  clear hf
  go_enter Tryz.func54, Tryz.ntmps54
  go_wp2_with (refine (unhide HF _ n).mono ?_; rintro e w2 ⟨rfl, hB⟩)
  go_ret
  exact ⟨rfl, ((Below.refl _ W).alloc (Nat.le_refl _) _).trans (hB.mono (by simp))⟩
set_option maxRecDepth 100000 in
theorem takesNum_none (x0 x2 x3 x4 x5 x6 x7 : Value) (n : Int) (W : World) :
    Calls Tryz.prog 54 #[.agg #[x0, .nilFunc, x2, x3, x4, x5, x6, x7], .int .i64 n] W fun e w' => e = .returned (.bool (n == 0)) ∧ Below W.heap.size W w' := by
  go_enter Tryz.func54, Tryz.ntmps54
  go_wp2
  go_ret
  exact ⟨rfl, (Below.refl _ W).alloc (Nat.le_refl _) _⟩
set_option maxRecDepth 100000 in
theorem placeOf_more (f : Nat) (x0 x1 x2 x3 x4 x5 x7 : Value) (i : Int) (W : World) :
    Calls Tryz.prog 72 #[.agg #[x0, x1, x2, x3, x4, x5, .func (.func f) #[] #[], x7], .int .i64 i] W fun e w' => e = .returned (.func (.func f) #[] #[]) ∧ Below W.heap.size W w' := by
  go_enter Tryz.func72, Tryz.ntmps72
  go_wp2
  go_ret
  exact ⟨rfl, (Below.refl _ W).alloc (Nat.le_refl _) _⟩
set_option maxRecDepth 100000 in
theorem placeOf_at (x0 x1 x2 x3 x4 x5 x7 : Value) (i : Nat) (W : World) :
    Calls Tryz.prog 72 #[.agg #[x0, x1, x2, x3, x4, x5, .nilFunc, x7], .int .i64 (i : Int)] W fun e w' => e = .returned ([x2, x3, x4, x5].getD i .nilFunc) ∧ Below W.heap.size W w' := by
  by_cases h4 : i < 4
  · rcases (by omega : i = 0 ∨ i = 1 ∨ i = 2 ∨ i = 3) with rfl | rfl | rfl | rfl
    all_goals (
      go_enter Tryz.func72, Tryz.ntmps72
      go_wp2
      go_ret
      exact ⟨rfl, (Below.refl _ W).alloc (Nat.le_refl _) _⟩)
  · have h4' : ¬ (i : Int) < 4 := by omega
    have HR : Hid ([x2, x3, x4, x5].getD i .nilFunc = .nilFunc) := by
      show [x2, x3, x4, x5].getD i .nilFunc = .nilFunc
      rw [List.getD_eq_getElem?_getD, List.getElem?_eq_none (by simp; omega)]; rfl
    rw [unhide HR]
    go_enter Tryz.func72, Tryz.ntmps72
    go_wp2
    go_ret
    exact ⟨rfl, (Below.refl _ W).alloc (Nat.le_refl _) _⟩
end Go.Proofs.YtnnpkomedpjlcaaGreatDoor

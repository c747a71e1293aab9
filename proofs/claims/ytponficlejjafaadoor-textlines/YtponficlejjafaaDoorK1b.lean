/- A part of a row of bytes, turned into a string. -/
import Derived.Test.YtponficlejjafaaDoorK1
import Derived.Test.YtponficlejjafaaDoorV0
namespace Go.Proofs.YtponficlejjafaaDoor
set_option linter.unusedSimpArgs false
set_option linter.unusedVariables false
open Go.RowKit Go.Shelf

theorem size5 (w : World) : (sizeOf 5).run Tryd.prog w = .ok 1 w := by kernel_rfl
theorem under22 : Tryd.prog.underlying 22 = some (.slice (Tryd.prog.elem 22)) := by kernel_rfl
theorem elem22 : Tryd.prog.elem 22 = 5 := by kernel_rfl

theorem cut_conv {W : World} {c : Nat} {a : Option Addr} {len cap : Nat} {g : Nat → Int} {xf xt : Nat} (hS : Sl W c (.slice a len cap) len g) (h1 : xf ≤ xt) (h2 : xt ≤ len) :
    ∃ sv', (∀ W', (Instr.slice 22 (.slice a len cap) (some (.int .i64 (xf : Int))) (some (.int .i64 (xt : Int))) none).run Tryd.prog W' = .ok sv' W') ∧
      ∀ W', Sl W' c (.slice a len cap) len g → (convert 22 9 sv').run Tryd.prog W' = .ok (.string (strOfNums (sub g xf xt))) W' := by
  have hcap : xt ≤ cap := by
    rcases hS with ⟨a', cap', h, h0⟩ | ⟨off, cap', h, _, h3, _⟩
    · cases h; omega
    · cases h; omega
  refine ⟨sliced a xf xt cap 1, fun W' => ?_, fun W' hS' => ?_⟩
  · rw [run_slice_lh W' 22 a len cap under22 .i64 .i64 xf xt (by omega) (by omega) (by omega), elem22, size5]
    rfl
  · unfold sliced
    rcases hS' with ⟨a', cap', h, h0⟩ | ⟨off, cap', h, h3, h4, h5, hc⟩
    · cases h
      obtain rfl : xt = 0 := by omega
      obtain rfl : xf = 0 := by omega
      cases a with
      | none =>
        have e : (if cap = 0 then none else Option.map (fun x => Addr.add x (0 * 1)) none : Option Addr) = none := by split <;> rfl
        rw [e]
        exact run_convert_bytes_nil W' 22 5 Tryd.underlying22 Tryd.underlying5 _ _ 9 Tryd.underlying9
      | some ad =>
        obtain ⟨ad', e⟩ : ∃ ad', (if cap = 0 then some ad else Option.map (fun x => Addr.add x (0 * 1)) (some ad) : Option Addr) = some ad' := by split <;> exact ⟨_, rfl⟩
        rw [e]
        exact conv_run (g := fun j => g (0 + j)) (.inr ⟨ad', _, rfl, fun j hj => by omega⟩)
    · cases h
      by_cases hcx : cap = xf
      · rw [if_pos hcx]
        exact conv_run (g := fun j => g (xf + j)) (.inr ⟨_, _, rfl, fun j hj => by omega⟩)
      · rw [if_neg hcx]
        refine conv_run (g := fun j => g (xf + j)) (.inr ⟨_, _, rfl, fun j hj => ?_⟩)
        have := hc (xf + j) (by omega)
        simp only [Nat.mul_one, Addr.add_lit, Nat.add_assoc]
        exact this
end Go.Proofs.YtponficlejjafaaDoor

/- At of an array by a number; Get of an array's length. -/
import Derived.Test.YtojbkohgngnlaabDoorH9
namespace Go.Proofs.YtojbkohgngnlaabDoor
set_option linter.unusedSimpArgs false
set_option linter.unusedVariables false
set_option maxRecDepth 100000
set_option maxHeartbeats 2000000
open Go.RowKit Go.Shelf

variable {w W : World} {l : Ly} {hb : Nat} {H : PH}
/-- A box that is written over. -/
theorem over (w : World) (b : Nat) (k n k' n' : Int) (t t' : ByteArray) (h : Bv w b k n t) : ∃ W3, ((w.setCell ⟨b, 0, none⟩ (.int .i64 k')).setCell ⟨b, 1, none⟩ (.int .i64 n')).setCell ⟨b, 2, none⟩ (.string t') = W3 ∧ Bv W3 b k' n' t' ∧ (∀ B a, Below B a w → B ≤ b → Below B a W3) ∧ (∀ c k n t, Bv w c k n t → c ≠ b → Bv W3 c k n t) ∧ W3.heap.size = w.heap.size :=
  ⟨_, rfl, Bx.puts h _ _ _, fun B a hb hB => below_put3 hb hB _ _ _, fun c k n t hc hne => Bx.puts_ne hc hne _ _ _, size_put3 _ _ _ _ _⟩
theorem stl_ref (H : PH) (i : Nat) (t : Th) (hi : H.ths[i]? = some t) (s : ByteArray) : stl H ⟨5, i, s⟩ = ⟨5, i, ByteArray.empty⟩ := by
  have := (List.getElem?_eq_some_iff.1 hi).1
  simp [stl, isTh]; omega
end Go.Proofs.YtojbkohgngnlaabDoor

/- Boxes that hold a value. -/
import Derived.Test.YtdgocaokmmhenaaGreatDoorV0
namespace Go.Proofs.YtdgocaokmmhenaaGreatDoor
set_option linter.unusedSimpArgs false
set_option linter.unusedVariables false
set_option maxRecDepth 100000
open Go.RowKit
theorem al_at (w : World) (b : Obj) : (w.alloc b).heap[w.heap.size]? = some b := by show (w.heap.push b)[_]? = _; simp
/-- A box: a block of cells. -/
def Bx (w : World) (b : Nat) (cs : Array Value) (t : Nat) : Prop := w.heap[b]? = some (.cells cs t)
theorem Bx.cell {w : World} {b t : Nat} {cs : Array Value} (h : Bx w b cs t) (i : Nat) {x : Value} (hx : cs[i]? = some x) : w.cell? ⟨b, i, none⟩ = some x := by
  have h' : w.heap[b]? = some (.cells cs t) := h
  simp [World.cell?, h', hx]
theorem Bx.free {w : World} {b t : Nat} {cs : Array Value} (h : Bx w b cs t) (i : Nat) : w.frozen? ⟨b, i, none⟩ = false := by
  have h' : w.heap[b]? = some (.cells cs t) := h
  simp [World.frozen?, h']
theorem Bx.lt {w : World} {b t : Nat} {cs : Array Value} (h : Bx w b cs t) : b < w.heap.size := (Array.getElem?_eq_some_iff.1 h).1
theorem Bx.below {w w' : World} {b t B : Nat} {cs : Array Value} (h : Bx w b cs t) (hb : Below B w w') (hB : b < B) : Bx w' b cs t := (hb.block b hB).trans h
theorem Bx.set {w : World} {b t i : Nat} {cs : Array Value} (h : Bx w b cs t) (u : Value) : Bx (w.setCell ⟨b, i, none⟩ u) b (cs.setIfInBounds i u) t := by
  have h' : w.heap[b]? = some (.cells cs t) := h
  unfold Bx
  simp [World.setCell, Array.getElem?_modify, h']
theorem Bx.other {w : World} {b c i t : Nat} {cs : Array Value} (h : Bx w b cs t) (hne : b ≠ c) (u : Value) : Bx (w.setCell ⟨c, i, none⟩ u) b cs t := by
  have h' : w.heap[b]? = some (.cells cs t) := h
  unfold Bx
  simp [World.setCell, Array.getElem?_modify, h', Ne.symm hne]
theorem Bx.new (w : World) (cs : Array Value) (t : Nat) : Bx (w.alloc (.cells cs t)) w.heap.size cs t := al_at w _
theorem Bx.alloc {w : World} {b t : Nat} {cs : Array Value} (h : Bx w b cs t) (o : Obj) : Bx (w.alloc o) b cs t := by
  have := h.lt
  show (w.heap.push o)[b]? = _
  rw [Array.getElem?_push_lt (by omega)]
  exact (Array.getElem?_eq_getElem h.lt).symm.trans h
/-- A box with a value. -/
def Bv (w : World) (b : Nat) (k n : Int) (t : ByteArray) : Prop := Bx w b (Vc k n t) 23
theorem Bv.all {w : World} {b : Nat} {k n : Int} {t : ByteArray} (h : Bv w b k n t) : w.cell? ⟨b, 0, none⟩ = some (.int .i64 k) ∧ w.cell? ⟨b, 1, none⟩ = some (.int .i64 n) ∧ w.cell? ⟨b, 2, none⟩ = some (.string t) ∧ w.frozen? ⟨b, 0, none⟩ = false ∧ w.frozen? ⟨b, 1, none⟩ = false ∧ w.frozen? ⟨b, 2, none⟩ = false ∧ b < w.heap.size :=
  ⟨Bx.cell h 0 rfl, Bx.cell h 1 rfl, Bx.cell h 2 rfl, Bx.free h 0, Bx.free h 1, Bx.free h 2, Bx.lt h⟩
theorem Bv.below {w w' : World} {b B : Nat} {k n : Int} {t : ByteArray} (h : Bv w b k n t) (hb : Below B w w') (hB : b < B) : Bv w' b k n t := Bx.below h hb hB
theorem below_one (W : World) (a : Obj) : Below W.heap.size W (W.alloc a) := (Below.refl _ W).alloc (Nat.le_refl _) _
theorem below_two (W : World) (a b : Obj) : Below W.heap.size W ((W.alloc a).alloc b) := (below_one W a).alloc (by simp) _
theorem below_three (W : World) (a b c : Obj) : Below W.heap.size W (((W.alloc a).alloc b).alloc c) := (below_two W a b).alloc (by simp; omega) _
/-- One box, and the zero value behind it. -/
theorem two_boxes (W : World) (k n : Int) (t : ByteArray) : ∃ W2, (W.alloc (.cells #[.int .i64 k, .int .i64 n, .string t] 23)).alloc (.cells #[.int .i64 0, .int .i64 0, .string ⟨#[]⟩] 23) = W2 ∧ Bv W2 W.heap.size k n t ∧ Bv W2 (W.heap.size + 1) 0 0 ⟨#[]⟩ ∧ Below W.heap.size W W2 ∧ W2.heap.size = W.heap.size + 2 := by
  refine ⟨_, rfl, (Bx.new W _ _).alloc _, ?_, below_two _ _ _, by simp⟩
  have := Bx.new (W.alloc (.cells #[.int .i64 k, .int .i64 n, .string t] 23)) (Vc 0 0 ⟨#[]⟩) 23
  rw [World.size_alloc] at this
  exact this
theorem one_box (W : World) : ∃ W2, W.alloc (.cells #[.int .i64 0, .int .i64 0, .string ⟨#[]⟩] 23) = W2 ∧ Bv W2 W.heap.size 0 0 ⟨#[]⟩ ∧ Below W.heap.size W W2 ∧ W2.heap.size = W.heap.size + 1 :=
  ⟨_, rfl, Bx.new W _ _, below_one _ _, by simp⟩
theorem three_boxes (W : World) (k n : Int) (t : ByteArray) (k' n' : Int) (t' : ByteArray) : ∃ W2, ((W.alloc (.cells #[.int .i64 k, .int .i64 n, .string t] 23)).alloc (.cells #[.int .i64 k', .int .i64 n', .string t'] 23)).alloc (.cells #[.int .i64 0, .int .i64 0, .string ⟨#[]⟩] 23) = W2 ∧ Bv W2 W.heap.size k n t ∧ Bv W2 (W.heap.size + 1) k' n' t' ∧ Bv W2 (W.heap.size + 2) 0 0 ⟨#[]⟩ ∧ Below W.heap.size W W2 ∧ W2.heap.size = W.heap.size + 3 := by
  refine ⟨_, rfl, ((Bx.new W _ _).alloc _).alloc _, ?_, ?_, below_three _ _ _ _, by simp⟩
  · have := Bx.new (W.alloc (.cells #[.int .i64 k, .int .i64 n, .string t] 23)) (Vc k' n' t') 23
    rw [World.size_alloc] at this
    exact this.alloc _
  · have := Bx.new ((W.alloc (.cells #[.int .i64 k, .int .i64 n, .string t] 23)).alloc (.cells #[.int .i64 k', .int .i64 n', .string t'] 23)) (Vc 0 0 ⟨#[]⟩) 23
    rw [World.size_alloc, World.size_alloc] at this
    exact this
end Go.Proofs.YtdgocaokmmhenaaGreatDoor

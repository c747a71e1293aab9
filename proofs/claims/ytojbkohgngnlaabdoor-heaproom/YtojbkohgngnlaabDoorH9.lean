/- Push, Len; a value of an array by its number. -/
import Derived.Test.YtojbkohgngnlaabDoorH8
namespace Go.Proofs.YtojbkohgngnlaabDoor
set_option linter.unusedSimpArgs false
set_option linter.unusedVariables false
set_option maxRecDepth 100000
set_option maxHeartbeats 2000000
open Go.RowKit Go.Shelf

variable {w W : World} {l : Ly} {hb : Nat} {H : PH}
theorem flat_len (vs : List PV) : (vs.flatMap PV.cells).length = vs.length * 3 := by
  induction vs with
  | nil => rfl
  | cons v vs ih => simp [PV.cells, ih]; omega
theorem flat_get : ∀ (vs : List PV) (m : Nat) (v : PV), vs[m]? = some v → (vs.flatMap PV.cells)[m * 3]? = some (.int .i64 v.k) ∧ (vs.flatMap PV.cells)[m * 3 + 1]? = some (.int .i64 v.n) ∧ (vs.flatMap PV.cells)[m * 3 + 2]? = some (.string v.t)
  | [], m, v, h => by simp at h
  | u :: vs, 0, v, h => by
    simp at h; subst h
    simp [PV.cells]
  | u :: vs, m + 1, v, h => by
    have := flat_get vs m v (by simpa using h)
    have e : ∀ j, (PV.cells u ++ vs.flatMap PV.cells)[(m + 1) * 3 + j]? = (vs.flatMap PV.cells)[m * 3 + j]? := fun j => by
      rw [List.getElem?_append_right (by simp [PV.cells]; omega)]
      congr 1
      simp [PV.cells]; omega
    simp only [List.flatMap_cons]
    exact ⟨(e 0).trans this.1, (e 1).trans this.2.1, (e 2).trans this.2.2⟩
/-- An array's cells. -/
theorem ArAt.cells {i : Nat} {t : Th} {sv : Value} (h : ArAt W l i t sv) : ∃ (a : Option Addr) (c : Nat), sv = .slice a t.vals.length c ∧ W.cell? ⟨l.bx i, 0, none⟩ = some (.slice a t.vals.length c) ∧
    (∀ m v, t.vals[m]? = some v → ∃ g, a = some ⟨g, 0, none⟩ ∧ W.cell? ⟨g, m * 3, none⟩ = some (.int .i64 v.k) ∧ W.cell? ⟨g, m * 3 + 1, none⟩ = some (.int .i64 v.n) ∧ W.cell? ⟨g, m * 3 + 2, none⟩ = some (.string v.t)) := by
  have hbx := h.box
  obtain ⟨hlen, h2⟩ := h.row
  rcases h2 with ⟨rfl, h0⟩ | ⟨g, cap, cur, rfl, _, hg, hn, _, hs, ht⟩
  · refine ⟨none, 0, by rw [h0], by rw [h0]; exact hbx.cell 0 rfl, fun m v hm => ?_⟩
    have := (List.getElem?_eq_some_iff.1 hm).1
    omega
  · refine ⟨some ⟨g, 0, none⟩, cap, rfl, hbx.cell 0 rfl, fun m v hm => ⟨g, rfl, ?_⟩⟩
    have hml := (List.getElem?_eq_some_iff.1 hm).1
    have key : ∀ j x, j < 3 → (t.vals.flatMap PV.cells)[m * 3 + j]? = some x → W.cell? ⟨g, m * 3 + j, none⟩ = some x := fun j x hj hx => by
      rw [← ht, List.getElem?_take, if_pos (by omega)] at hx
      rw [cell_of_row W g (m * 3 + j) cur 35 (0, 0) hg]
      simpa using hx
    obtain ⟨e0, e1, e2⟩ := flat_get t.vals m v hm
    exact ⟨key 0 _ (by omega) e0, key 1 _ (by omega) e1, key 2 _ (by omega) e2⟩
def atP (vs : List PV) (m : Int) : PV := if m < 0 then PV.und else (vs[m.toNat]?).getD PV.und
theorem vals_len (h : HAt W l hb H) {i : Nat} {t : Th} (hi : H.ths[i]? = some t) : t.vals.length ≤ 1048576 ∧ t.slots.length ≤ 1048576 := by
  have e := cells_at H.ths i t hi
  have := h.room
  have := h.used
  have := h.sum
  unfold cellsT at e
  omega
end Go.Proofs.YtojbkohgngnlaabDoor

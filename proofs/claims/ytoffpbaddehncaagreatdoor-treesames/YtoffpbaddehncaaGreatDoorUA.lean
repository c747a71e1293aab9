/- A lent tree whose At are turned: one round. -/
import Derived.Test.YtoffpbaddehncaaGreatDoorTZn
namespace Go.Proofs.YtoffpbaddehncaaGreatDoor
set_option linter.unusedSimpArgs false
set_option linter.unusedVariables false
open Go.RowKit Go.Shelf

/-- Two rows of nodes but for At, as data. -/
def AtOnly (l m : List Nd) : Prop := l.length = m.length ∧ ∀ j, j < l.length → (nd l j).kind = (nd m j).kind ∧ (nd l j).text = (nd m j).text ∧ (nd l j).num = (nd m j).num ∧ (nd l j).kids = (nd m j).kids
theorem AtOnly.refl (l : List Nd) : AtOnly l l := ⟨rfl, fun _ _ => ⟨rfl, rfl, rfl, rfl⟩⟩
theorem AtOnly.symm {l m : List Nd} (h : AtOnly l m) : AtOnly m l := ⟨h.1.symm, fun j hj => by obtain ⟨a, b, c, d⟩ := h.2 j (by rw [h.1]; exact hj); exact ⟨a.symm, b.symm, c.symm, d.symm⟩⟩
theorem AtOnly.same {l m : List Nd} (h : AtOnly l m) : sameT l m = true := by
  refine (sameT_iff h.1).2 fun j hj => ?_
  obtain ⟨a, b, c, d⟩ := h.2 j hj
  simp [nodeEq, a, b, c, d]
theorem flatN_setAt (es : List NE) : ∀ (i : Nat) (x : Nd) (ka : Option Addr) (kc : Nat) (z : Int), es[i]? = some ⟨x, ka, kc⟩ → (flatN es).set (i * 5 + 4) (.int .i64 z) = flatN (es.set i ⟨{ x with at' := z }, ka, kc⟩) := by
  induction es with
  | nil => intro i x ka kc z h; cases h
  | cons e es ih =>
    intro i x ka kc z h
    have e1 : ∀ (y : NE) (l : List NE), flatN (y :: l) = cellN y ++ flatN l := fun y l => by simp [flatN]
    cases i with
    | zero =>
      simp only [List.getElem?_cons_zero, Option.some.injEq] at h
      subst h
      simp [e1, cellN]
    | succ i =>
      have hl : (cellN e).length = 5 := rfl
      rw [List.set_cons_succ, e1, e1, ← ih i x ka kc z (by simpa using h), List.set_append_right _ _ (by omega), hl, show (i + 1) * 5 + 4 - 5 = i * 5 + 4 from by omega]
theorem atOnly_set {l : List Nd} {es : List NE} {i : Nat} {x : Nd} {ka : Option Addr} {kc : Nat} {z : Int} (h : AtOnly l (es.map NE.x)) (he : es[i]? = some ⟨x, ka, kc⟩) : AtOnly l ((es.set i ⟨{ x with at' := z }, ka, kc⟩).map NE.x) := by
  refine ⟨by rw [h.1]; simp, fun j hj => ?_⟩
  have hil := (List.getElem?_eq_some_iff.1 he).1
  have h0 := h.2 j hj
  by_cases e : j = i
  · subst e
    have e1 : nd (es.map NE.x) j = x := by simp [nd, List.getD_eq_getElem?_getD, he]
    have e2 : nd ((es.set j ⟨{ x with at' := z }, ka, kc⟩).map NE.x) j = { x with at' := z } := by simp [nd, List.getD_eq_getElem?_getD, hil]
    rw [e1] at h0
    rw [e2]
    exact h0
  · have e2 : nd ((es.set i ⟨{ x with at' := z }, ka, kc⟩).map NE.x) j = nd (es.map NE.x) j := by simp only [nd, List.getD_eq_getElem?_getD, List.getElem?_map, List.getElem?_set_ne (Ne.symm e)]
    rw [e2]
    exact h0
/-- One node's At is turned. -/
theorem OwnN.setAt {W : World} {B g n cap : Nat} {es : List NE} {i : Nat} {x : Nd} {ka : Option Addr} {kc : Nat} (h : OwnN W B (.slice (some ⟨g, 0, none⟩) n cap) es) (hn : es.length = n) (he : es[i]? = some ⟨x, ka, kc⟩) (z : Int) :
    OwnN (W.setCell ⟨g, i * 5 + 4, none⟩ (.int .i64 z)) B (.slice (some ⟨g, 0, none⟩) n cap) (es.set i ⟨{ x with at' := z }, ka, kc⟩) := by
  obtain ⟨h1, h2⟩ := h
  subst hn
  have hst := (h1.stored (i * 5 + 4) (.int .i64 z)).1
  rw [flatN_setAt es i x ka kc z he] at hst
  refine ⟨by rw [List.length_set]; exact hst, fun e hm => ?_⟩
  have hk : ∀ (k : Nat) (cur : Array Value), W.heap[k]? = some (Obj.cells cur 3 (0, 0)) → (W.setCell ⟨g, i * 5 + 4, none⟩ (.int .i64 z)).heap[k]? = W.heap[k]? := fun k cur hk => by
    refine Below.heap_setCell _ _ _ _ fun e0 => ?_
    have e0 : k = g := e0
    subst e0
    rcases h1.2 with ⟨h0, _⟩ | ⟨g', cap', cur', h0, _, hh, _⟩
    · cases h0
    · injection h0 with h1 _ _
      injection h1 with h1
      injection h1 with h1 _ _
      subst h1
      rw [hk] at hh
      cases hh
  obtain ⟨j, hj⟩ := List.getElem?_of_mem hm
  by_cases e0 : j = i
  · subst e0
    have hil := (List.getElem?_eq_some_iff.1 he).1
    rw [List.getElem?_set_self (by simpa using hil)] at hj
    cases hj
    have h0 : KidO W B ⟨x, ka, kc⟩ := h2 _ (List.mem_of_getElem? he)
    have h0' : KidO W B ⟨{ x with at' := z }, ka, kc⟩ := h0
    exact h0'.keep hk
  · rw [List.getElem?_set_ne (Ne.symm e0)] at hj
    exact (h2 e (List.mem_of_getElem? hj)).keep hk
end Go.Proofs.YtoffpbaddehncaaGreatDoor

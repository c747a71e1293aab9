/- A thing more in the heap. -/
import Derived.Test.YtdgocaokmmhenaaGreatDoorH5
namespace Go.Proofs.YtdgocaokmmhenaaGreatDoor
set_option linter.unusedSimpArgs false
set_option linter.unusedVariables false
set_option maxRecDepth 100000
open Go.RowKit

variable {w W : World} {l : Ly} {hb : Nat} {H : PH}
/-- The layout with a new thing at g3; the row of things may lie in a new block. -/
def addLy (l : Ly) (N n g3 : Nat) (sv : Value) : Ly := ⟨fun k => if k < N then l.L k else if k = g3 then 3 * n + 3 else if sv.ownBlock = some k then 2 else 0, fun i => if i = n then g3 else l.bx i⟩
theorem addLy_low (l : Ly) (N n g3 : Nat) (sv : Value) {k : Nat} (h : k < N) : (addLy l N n g3 sv).L k = l.L k := by simp [addLy, h]
theorem addLy_bx (l : Ly) (N n g3 : Nat) (sv : Value) {i : Nat} (h : i < n) : (addLy l N n g3 sv).bx i = l.bx i := by simp [addLy]; omega
theorem bpv_new (l : Ly) (N n g3 : Nat) (sv : Value) (o : Option Nat) (h : ∀ j, o = some j → j < n) : bpv (addLy l N n g3 sv) o = bpv l o := by
  cases o with
  | none => rfl
  | some j => simp [bpv, addLy_bx l N n g3 sv (h j rfl)]
theorem HAt.grown {w1 w5 : World} {r u : Nat} {ths : List Th} {sv sv' : Value} (h : HAt w1 l hb ⟨r, u, ths⟩) (hc : cellsH ths + 1 ≤ u) (kd : Nat) (beh : Option Nat) (hkd : 1 ≤ kd ∧ kd ≤ 4) (hbe : ∀ j, beh = some j → ∃ t : Th, ths[j]? = some t ∧ (t.kind = 1 ∨ t.kind = 4)) (h2 : kd = 2 → beh = none)
    (hsv : ∀ g, sv.ownBlock = some g → l.L g = 2) (hsz : w1.heap.size ≤ w5.heap.size) (g3 : Nat) (hg3 : w1.heap.size ≤ g3)
    (hk : ∀ k, k < w1.heap.size → k ≠ hb → some k ≠ sv.ownBlock → w5.heap[k]? = w1.heap[k]?)
    (hx3 : Bx w5 g3 (newCells kd (bpv l beh)) (tyB kd)) (hbox : Bx w5 hb #[.int .i64 r, .int .i64 u, sv'] 36)
    (hrow : w5.ownsRow 0 68 1 sv' (ths.length + 1) (ifs l ths ++ [.iface (tyP kd) (ptr g3)]))
    (hg4 : ∀ g, sv'.ownBlock = some g → sv.ownBlock = some g ∨ (w1.heap.size ≤ g ∧ g ≠ g3)) :
    HAt w5 (addLy l w1.heap.size ths.length g3 sv') hb ⟨r, u, ths ++ [⟨kd, beh, [], []⟩]⟩ := by
  obtain ⟨l', hl'⟩ : ∃ l', addLy l w1.heap.size ths.length g3 sv' = l' := ⟨_, rfl⟩
  have hlow : ∀ k, k < w1.heap.size → l'.L k = l.L k := fun k hk => by rw [← hl']; exact addLy_low _ _ _ _ _ hk
  have hbx : ∀ i, i < ths.length → l'.bx i = l.bx i := fun i hi => by rw [← hl']; exact addLy_bx _ _ _ _ _ hi
  have hn3 : l'.bx ths.length = g3 := by rw [← hl']; simp [addLy]
  have hL3 : l'.L g3 = 3 * ths.length + 3 := by rw [← hl']; simp [addLy]; omega
  have hbl : ∀ j, beh = some j → j < ths.length := fun j hj => by obtain ⟨t, ht, _⟩ := hbe j hj; exact (List.getElem?_eq_some_iff.1 ht).1
  have hbp : bpv l' beh = bpv l beh := by rw [← hl']; exact bpv_new _ _ _ _ _ _ hbl
  have hifs : ifs l' (ths ++ [⟨kd, beh, [], []⟩]) = ifs l ths ++ [.iface (tyP kd) (ptr g3)] := by
    unfold ifs
    rw [List.mapIdx_append]
    congr 1
    · apply List.ext_getElem?
      intro i
      simp only [List.getElem?_mapIdx]
      cases hi : ths[i]? with
      | none => rfl
      | some t => simp [ifv, hbx i (List.getElem?_eq_some_iff.1 hi).1]
    · simp [ifv, hn3]
  have hlt := h.lt
  have hne : ∀ k, l.L k ≠ 1 → k ≠ hb := fun k hk e => hk (e ▸ h.lh)
  have hns : ∀ k, l.L k ≠ 2 → some k ≠ sv.ownBlock := fun k hk e => hk (hsv k e.symm)
  rw [hl']
  refine { box := ⟨sv', hbox, by rw [hifs]; simpa using hrow, fun g hg => ?_⟩, lh := (hlow hb hlt).trans h.lh, fresh := fun k hk' => ?_, th := fun i t hi => ?_, obj := fun i t j hi hj => ?_, room := h.room, sum := ?_, used := h.used }
  · rcases hg4 g hg with e | ⟨e1, e2⟩
    · have := hsv g e
      have hlt' : g < w1.heap.size := by
        rcases Nat.lt_or_ge g w1.heap.size with h1 | h1
        · exact h1
        · have := h.fresh g h1; omega
      rw [hlow g hlt']; exact this
    · rw [← hl']; simp [addLy, e2, hg]; omega
  · have h3 := hx3.lt
    have : ¬ k < w1.heap.size := by omega
    rw [← hl']
    simp only [addLy, this, if_false]
    rw [if_neg (by omega), if_neg (fun e => by have := row_lt hrow e; omega)]
  · rcases Nat.lt_or_ge i ths.length with hi' | hi'
    · rw [List.getElem?_append_left hi'] at hi
      have ht := h.th i t hi
      exact ht.keep (hbx i hi') (fun j hj => hbx j (by have := ht.beh j hj; omega)) (fun k hk' ho => hk k hk' (hne k (by omega)) (hns k (by omega))) hlow
    · have e : i = ths.length := by
        have := (List.getElem?_eq_some_iff.1 hi).1
        simp at this; omega
      subst e
      rw [List.getElem?_append_right (Nat.le_refl _)] at hi
      simp at hi
      subst hi
      refine { lb := by rw [hn3, hL3], kd := hkd, arr := fun e => ⟨rfl, h2 e, .slice none 0 0, ?_⟩, obj := fun e => ⟨rfl, none, .slice none 0 0, ?_⟩, beh := hbl }
      · simp only at e
        subst e
        exact { box := by rw [hn3]; simpa [newCells, tyB] using hx3, row := World.ownsRow_nil _ _ _ _, lr := fun g hg => by simp [Value.ownBlock] at hg }
      · simp only at e
        exact { box := by rw [hn3]; simpa [newCells, e, hbp] using hx3, map := (fun m hm => by cases hm), nomap := fun _ => rfl, row := World.ownsRow_nil _ _ _ _, lr := fun g hg => by simp [Value.ownBlock] at hg }
  · have key : ∀ j, (∃ v : Th, ths[j]? = some v ∧ (v.kind = 1 ∨ v.kind = 4)) → ∃ v : Th, (ths ++ [⟨kd, beh, [], []⟩])[j]? = some v ∧ (v.kind = 1 ∨ v.kind = 4) := fun j hex => by obtain ⟨v, hv, hk⟩ := hex; exact ⟨v, by rw [List.getElem?_append_left (List.getElem?_eq_some_iff.1 hv).1]; exact hv, hk⟩
    rcases Nat.lt_or_ge i ths.length with hi' | hi'
    · simp only at hi
      rw [List.getElem?_append_left hi'] at hi
      exact key j (h.obj i t j hi hj)
    · simp only at hi
      rw [List.getElem?_append_right hi'] at hi
      have e0 : i - ths.length = 0 := by
        have := (List.getElem?_eq_some_iff.1 hi).1
        simp at this; omega
      rw [e0] at hi
      simp at hi
      subst hi
      exact key j (hbe j hj)
  · show cellsH (ths ++ [_]) ≤ u
    simp [cellsH, cellsT] at hc ⊢
    omega
end Go.Proofs.YtdgocaokmmhenaaGreatDoor

/- What Keep's rounds keep. -/
import Derived.Test.YticdaphajanbbaaGreatDoorNE
import Derived.Test.YticdaphajanbbaaGreatDoorNH
import Derived.Test.YticdaphajanbbaaGreatDoorKV
namespace Go.Proofs.YticdaphajanbbaaGreatDoor
set_option linter.unusedSimpArgs false
set_option linter.unusedVariables false
set_option maxRecDepth 100000
set_option maxHeartbeats 4000000
open Go.RowKit Go.Shelf

variable {P : Program} {lo M : Nat} {mo : Option Nat} {dv : Value} {L : List Kt} {W : World}
/-- Between rounds: all is as it was, but for the loop and the list of what stays. -/
structure LSt (Wl : World) (N bl lp : Nat) (rc : Loop) (l : List Int) (A : World) : Prop where
  os : A.os = Wl.os
  tape : A.tape = Wl.tape
  output : A.output = Wl.output
  size : N ≤ A.heap.size
  keep : ∀ k, k < N → k ≠ bl → k ≠ lp → A.heap[k]? = Wl.heap[k]?
  loop : A.heap[lp]? = some (.loop rc)
  left : ∃ lv, Bx A bl #[lv] 32 ∧ A.ownsRow N 3 1 lv l.length (iv l)
variable {Wl A B : World} {N bl lp : Nat} {rc rb : Loop} {l : List Int}
theorem LSt.below (h : LSt Wl N bl lp rc l A) (h1 : bl < N) (h2 : lp < N) (hb : Below A.heap.size A B) : LSt Wl N bl lp rc l B := by
  have hs := h.size
  obtain ⟨lv, hx, ho⟩ := h.left
  exact ⟨hb.os.trans h.os, hb.tape.trans h.tape, hb.output.trans h.output, Nat.le_trans hs hb.size, fun k hk n1 n2 => (hb.block k (by omega)).trans (h.keep k hk n1 n2), (hb.block lp (by omega)).trans h.loop, lv, (hb.block bl (by omega)).trans hx, row_keep ho fun k e => hb.block k (row_ty ho e).2.1⟩
theorem LSt.put (h : LSt Wl N bl lp rc l A) (h2 : lp < N) (hne : bl ≠ lp) : LSt Wl N bl lp rb l (A.putObj lp (.loop rb)) := by
  have hs := h.size
  obtain ⟨lv, hx, ho⟩ := h.left
  have ho' : ∀ k, k ≠ lp → (A.putObj lp (.loop rb)).heap[k]? = A.heap[k]? := fun k hk => World.putObj_heap_other hk
  exact ⟨h.os, h.tape, h.output, by simp; omega, fun k hk n1 n2 => (ho' k n2).trans (h.keep k hk n1 n2), World.putObj_heap_same (by omega), lv, (ho' bl hne).trans hx, row_keep ho fun k e => ho' k (by have := (row_ty ho e).2.2; omega)⟩
theorem LSt.app (h : LSt Wl N bl lp rc l A) (h1 : bl < N) (h2 : lp < N) (hne : bl ≠ lp) {lv v' : Value} {p : Int} {w2 : World} {o : Obj} (hx : Bx A bl #[lv] 32) (hb : ∀ k, lv.ownBlock = some k → N ≤ k) (ho : w2.ownsRow N 3 1 v' (l.length + 1) (iv l ++ [.int .i64 p])) (hg : (A.alloc o).grownBy w2 lv.ownBlock) : LSt Wl N bl lp rc (l ++ [p]) (w2.setCell ⟨bl, 0, none⟩ v') := by
  have hs := h.size
  have hsz := hg.size
  simp at hsz
  have k2 : ∀ k, k < N → w2.heap[k]? = A.heap[k]? := fun k hk => (hg.block k (by simp; omega) (fun e => by have := hb k e.symm; omega)).trans (Below.heap_alloc A _ k (by omega))
  have ks : ∀ k, k ≠ bl → (w2.setCell ⟨bl, 0, none⟩ v').heap[k]? = w2.heap[k]? := fun k hk => Below.heap_setCell _ _ _ _ hk
  have hx2 : Bx w2 bl #[lv] 32 := (k2 bl h1).trans hx
  refine ⟨?_, ?_, ?_, ?_, fun k hk n1 n2 => (ks k n1).trans ((k2 k hk).trans (h.keep k hk n1 n2)), (ks lp (fun e => hne e.symm)).trans ((k2 lp h2).trans h.loop), v', hx2.set v', ?_⟩
  · exact hg.os.trans h.os
  · exact hg.tape.trans h.tape
  · exact hg.output.trans h.output
  · rw [set_size]; omega
  · have e1 : iv (l ++ [p]) = iv l ++ [.int .i64 p] := by simp [iv]
    have e2 : (l ++ [p]).length = l.length + 1 := by simp
    rw [e1, e2]
    exact row_keep ho fun k e => ks k (by have := (row_ty ho e).2.2; omega)
theorem set7 {w : World} {b t : Nat} {y0 y1 y2 y3 y4 y5 y6 : Value} (h : Bx w b #[y0, y1, y2, y3, y4, y5, y6] t) (v0 v1 v2 v3 v4 v5 v6 : Value) : Bx (((((((w.setCell ⟨b, 0, none⟩ v0).setCell ⟨b, 1, none⟩ v1).setCell ⟨b, 2, none⟩ v2).setCell ⟨b, 3, none⟩ v3).setCell ⟨b, 4, none⟩ v4).setCell ⟨b, 5, none⟩ v5).setCell ⟨b, 6, none⟩ v6) b #[v0, v1, v2, v3, v4, v5, v6] t := by
  have h0 := h.set (i := 0) v0
  have h1 := h0.set (i := 1) v1
  have h2 := h1.set (i := 2) v2
  have h3 := h2.set (i := 3) v3
  have h4 := h3.set (i := 4) v4
  have h5 := h4.set (i := 5) v5
  have h6 := h5.set (i := 6) v6
  simpa using h6
theorem bel7 {B : Nat} {a w : World} {b : Nat} (h : Below B a w) (hb : B ≤ b) (v0 v1 v2 v3 v4 v5 v6 : Value) : Below B a (((((((w.setCell ⟨b, 0, none⟩ v0).setCell ⟨b, 1, none⟩ v1).setCell ⟨b, 2, none⟩ v2).setCell ⟨b, 3, none⟩ v3).setCell ⟨b, 4, none⟩ v4).setCell ⟨b, 5, none⟩ v5).setCell ⟨b, 6, none⟩ v6) :=
  ((((((h.setCell (p := ⟨b, 0, none⟩) hb v0).setCell (p := ⟨b, 1, none⟩) hb v1).setCell (p := ⟨b, 2, none⟩) hb v2).setCell (p := ⟨b, 3, none⟩) hb v3).setCell (p := ⟨b, 4, none⟩) hb v4).setCell (p := ⟨b, 5, none⟩) hb v5).setCell (p := ⟨b, 6, none⟩) hb v6
theorem free7 {w : World} {b t : Nat} {cs : Array Value} (h : Bx w b cs t) : w.frozen? ⟨b, 0, none⟩ = false ∧ w.frozen? ⟨b, 1, none⟩ = false ∧ w.frozen? ⟨b, 2, none⟩ = false ∧ w.frozen? ⟨b, 3, none⟩ = false ∧ w.frozen? ⟨b, 4, none⟩ = false ∧ w.frozen? ⟨b, 5, none⟩ = false ∧ w.frozen? ⟨b, 6, none⟩ = false :=
  ⟨h.free 0, h.free 1, h.free 2, h.free 3, h.free 4, h.free 5, h.free 6⟩
/-- What stays: of which the test says either, or what is asked for. -/
def keptP (vd : Int → Int) (yes : Bool) (l : List Int) : List Int := l.filter fun p => vd (p + 1) == 0 || vd (p + 1) == sureP yes
theorem kept_snoc (vd : Int → Int) (yes : Bool) (l : List Int) (p : Int) : keptP vd yes (l ++ [p]) = if (vd (p + 1) == 0 || vd (p + 1) == sureP yes) = true then keptP vd yes l ++ [p] else keptP vd yes l := by
  unfold keptP
  rw [List.filter_append]
  split <;> rename_i h <;> simp [List.filter, h]
end Go.Proofs.YticdaphajanbbaaGreatDoor

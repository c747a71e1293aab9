/- A worklist is begun. -/
import Derived.WideMake
import Derived.Deep.RegionLaw
import Derived.Test.YtapnnbgcdijfpaaGreatDoorMA
namespace Go.Proofs.YtapnnbgcdijfpaaGreatDoor
set_option linter.unusedSimpArgs false
set_option linter.unusedVariables false
set_option maxRecDepth 100000
set_option maxHeartbeats 4000000
open Go.RowKit Go.Shelf

theorem check3 (w : World) (x : Int) (n : Nat) : (Instr.checkKey false (n + 1) 3 (.int .i64 x)).run Tryz.prog w = .ok () w := by
  unfold Instr.checkKey
  simp [run_underlying Tryz.underlying3, go_sem]
theorem check96 (w : World) (x y : Int) : (Instr.checkKey false 10000 96 (.agg #[.int .i64 x, .int .i64 y])).run Tryz.prog w = .ok () w := by
  unfold Instr.checkKey
  simp [run_underlying Tryz.underlying96, go_sem, check3 w x 9998, check3 w y 9998, Result.andThen]
theorem ins137 (w : World) (r clock : Nat) (x y : Int) (v : Value) (hb : w.heap[r]? = some (.map #[] clock)) : (Instr.mapUpdate 137 (.map (some r)) (.agg #[.int .i64 x, .int .i64 y]) v).run Tryz.prog w = .ok () { w with heap := w.heap.setIfInBounds r (.map #[{ key := .agg #[.int .i64 x, .int .i64 y], val := v, born := clock }] (clock + 1)) } := by
  simp [Instr.mapUpdate, run_underlying Tryz.underlying137, MapKept.run_getObj_map hb, check96, Instr.findKey, run_underlying Tryz.underlying96, Instr.findNow, MapKept.run_setObj_map _ hb, Result.andThen]
/-- A map with its first entry. -/
def insW (w : World) (r clock : Nat) (k v : Value) : World := { w with heap := w.heap.setIfInBounds r (.map #[{ key := k, val := v, born := clock }] (clock + 1)) }
theorem step_ins137 (w : World) {ops : Array Oper} {o : Oper} {a : Act} {K : Act → World → Prop} {Q : Exit → Act → World → Prop} {E : Prop} (hgd : o.guard = none) (m x v : Operand) (ho : o.op = Op.insert 137 m x v) (r clock : Nat) (X Y : Int) (V : Value) (hm : a.eval m = .map (some r)) (hx : a.eval x = .agg #[.int .i64 X, .int .i64 Y]) (hv : a.eval v = V) (hb : w.heap[r]? = some (.map #[] clock)) (h : K (a.put o.dst undef) (insW w r clock (.agg #[.int .i64 X, .int .i64 Y]) V)) :
    if Region.wanted o (yielded ops a.tmps) = true then Oper.wp Tryz.prog o a w K Q else E := by
  have hw : Region.wanted o (yielded ops a.tmps) = true := by simp [Region.wanted, hgd]
  rw [if_pos hw]
  unfold Oper.wp
  simp [execOp, ho, hm, hx, hv, ins137 w r clock X Y V hb, Result.andThen]
  exact h
theorem insW_at (w : World) (r clock k : Nat) (a v : Value) (h : k ≠ r) : (insW w r clock a v).heap[k]? = w.heap[k]? := by
  simp only [insW]
  rw [Array.getElem?_setIfInBounds_ne (fun e => h e.symm)]
theorem insW_size (w : World) (r clock : Nat) (a v : Value) : (insW w r clock a v).heap.size = w.heap.size := by simp [insW]
theorem insW_cell (w : World) (r clock b i : Nat) (a v : Value) (h : b ≠ r) : (insW w r clock a v).cell? ⟨b, i, none⟩ = w.cell? ⟨b, i, none⟩ := by
  simp only [World.cell?, insW_at w r clock b a v h]
theorem insW_if (w : World) (r clock k : Nat) (a v : Value) : (insW w r clock a v).heap[k]? = if k = r then (if r < w.heap.size then some (.map #[{ key := a, val := v, born := clock }] (clock + 1)) else none) else w.heap[k]? := by
  by_cases h : k = r
  · subst h
    simp [insW, Array.getElem?_setIfInBounds]
  · rw [if_neg h]; exact insW_at w r clock k a v h
theorem alloc_if (w : World) (o : Obj) (i : Nat) : (w.alloc o).heap[i]? = if i = w.heap.size then some o else w.heap[i]? := by
  show (w.heap.push o)[i]? = _
  rw [Array.getElem?_push]
theorem drew_if (w : World) (i : Nat) : w.drew.heap[i]? = w.heap[i]? := rfl
theorem drew_sz (w : World) : w.drew.heap.size = w.heap.size := rfl
theorem alloc_sz (w : World) (o : Obj) : (w.alloc o).heap.size = w.heap.size + 1 := by simp
theorem below_ins {B : Nat} {a w : World} (h : Below B a w) {r clock : Nat} (hr : B ≤ r) (k v : Value) : Below B a (insW w r clock k v) :=
  ⟨h.os, h.tape, h.output, by rw [insW_size]; exact h.size, fun i hi => (insW_at w r clock i k v (by omega)).trans (h.block i hi)⟩
theorem bx_last {u : World} {cs : Array Value} {t n : Nat} (h : n = u.heap.size) : Bx (u.alloc (.cells cs t)) n cs t := by subst h; exact al_at u _
def BegQ (M : Nat) (x y : Int) (W : World) (e : Ending) (w' : World) : Prop := ∃ b m r k, e = .returned (.pointer (some ⟨b, 0, none⟩)) ∧ Bx w' b #[.pointer (some ⟨M, 0, none⟩), .map (some m), .bool false, .slice (some ⟨r, 0, none⟩) 1 1, .map (some k)] 139 ∧ w'.heap[m]? = some (.map #[] 0) ∧ Bx w' r #[.int .i64 x, .int .i64 y, .int .i64 0, .slice none 0 0] 135 ∧ W.heap.size ≤ b ∧ W.heap.size ≤ m ∧ W.heap.size ≤ r ∧ Below W.heap.size W w'
theorem begun_any (M : Nat) (x y : Int) (W : World) : Calls Tryz.prog 50 #[.pointer (some ⟨M, 0, none⟩), .agg #[.int .i64 x, .int .i64 y]] W (BegQ M x y W) := by
  have hmk := fun (w : World) (t : TypeId) => run_makeMap_plain (P := Tryz.prog) w t
  have hal : ∀ (w : World) (o : Obj) (i : Nat), (w.alloc o).heap[i]? = if i = w.heap.size then some o else w.heap[i]? := fun w o i => by
    show (w.heap.push o)[i]? = _
    rw [Array.getElem?_push]
  have hsz : ∀ (w : World) (o : Obj), (w.alloc o).heap.size = w.heap.size + 1 := fun w o => by simp
  have hdr : ∀ (w : World) (i : Nat), w.drew.heap[i]? = w.heap[i]? := fun w i => rfl
  have hins : ∀ (w : World) (r : Nat), w.heap[r]? = some (.map #[] 0) → (Instr.mapUpdate 137 (.map (some r)) (.agg #[.int .i64 x, .int .i64 y]) (.int .i64 0)).run Tryz.prog w = .ok () (insW w r 0 (.agg #[.int .i64 x, .int .i64 y]) (.int .i64 0)) := fun w r h => ins137 w r 0 x y _ h
  have w0 := hins ((W.alloc (.cells #[.int .i64 x, .int .i64 y] 96)).alloc (.map #[] 0)).drew (W.heap.size + 1) (by simp only [hdr, hal, hsz]; simp)
  have w1 := hins (((W.alloc (.cells #[.int .i64 x, .int .i64 y] 96)).alloc (.map #[] 0)).alloc (.map #[] 0)).drew (W.heap.size + 1 + 1) (by simp only [hdr, hal, hsz]; simp)
  have w2 := hins (((W.alloc (.cells #[.int .i64 x, .int .i64 y] 96)).alloc (.map #[] 0)).alloc (.map #[] 0)).drew (W.heap.size + 1) (by simp only [hdr, hal, hsz]; simp)
  have w3 := hins (((W.alloc (.cells #[.int .i64 x, .int .i64 y] 96)).alloc (.cells #[.int .i64 x, .int .i64 y, .int .i64 0, .slice none 0 0] 135)).alloc (.map #[] 0)).drew (W.heap.size + 1 + 1) (by simp only [hdr, hal, hsz]; simp)
  have w4 := hins (((W.alloc (.cells #[.int .i64 x, .int .i64 y] 96)).alloc (.map #[] 0)).alloc (.cells #[.int .i64 x, .int .i64 y, .int .i64 0, .slice none 0 0] 135)).drew (W.heap.size + 1) (by simp only [hdr, hal, hsz]; simp)
  have w5 := hins ((((W.alloc (.cells #[.int .i64 x, .int .i64 y] 96)).alloc (.map #[] 0)).alloc (.cells #[.int .i64 x, .int .i64 y, .int .i64 0, .slice none 0 0] 135)).alloc (.map #[] 0)).drew (W.heap.size + 1 + 1 + 1) (by simp only [hdr, hal, hsz]; simp)
  have w6 := hins ((((W.alloc (.cells #[.int .i64 x, .int .i64 y] 96)).alloc (.map #[] 0)).alloc (.map #[] 0)).alloc (.cells #[.int .i64 x, .int .i64 y, .int .i64 0, .slice none 0 0] 135)).drew (W.heap.size + 1 + 1) (by simp only [hdr, hal, hsz]; simp)
  have w7 := hins ((((W.alloc (.cells #[.int .i64 x, .int .i64 y] 96)).alloc (.cells #[.int .i64 x, .int .i64 y, .int .i64 0, .slice none 0 0] 135)).alloc (.map #[] 0)).alloc (.map #[] 0)).drew (W.heap.size + 1 + 1 + 1) (by simp only [hdr, hal, hsz]; simp)
  have w8 := hins ((((W.alloc (.cells #[.int .i64 x, .int .i64 y] 96)).alloc (.cells #[.int .i64 x, .int .i64 y, .int .i64 0, .slice none 0 0] 135)).alloc (.map #[] 0)).alloc (.map #[] 0)).drew (W.heap.size + 1 + 1) (by simp only [hdr, hal, hsz]; simp)
  have w9 := hins ((((W.alloc (.cells #[.int .i64 x, .int .i64 y] 96)).alloc (.map #[] 0)).alloc (.map #[] 0)).alloc (.cells #[.int .i64 x, .int .i64 y, .int .i64 0, .slice none 0 0] 135)).drew (W.heap.size + 1) (by simp only [hdr, hal, hsz]; simp)
  have w10 := hins ((((W.alloc (.cells #[.int .i64 x, .int .i64 y] 96)).alloc (.map #[] 0)).alloc (.cells #[.int .i64 x, .int .i64 y, .int .i64 0, .slice none 0 0] 135)).alloc (.map #[] 0)).drew (W.heap.size + 1) (by simp only [hdr, hal, hsz]; simp)
  have his : ∀ (w : World) (r : Nat), (insW w r 0 (.agg #[.int .i64 x, .int .i64 y]) (.int .i64 0)).heap.size = w.heap.size := fun w r => insW_size _ _ _ _ _
  have hc1 : ∀ (w : World) (i : Nat), (insW w (W.heap.size + 1) 0 (.agg #[.int .i64 x, .int .i64 y]) (.int .i64 0)).cell? ⟨W.heap.size, i, none⟩ = w.cell? ⟨W.heap.size, i, none⟩ := fun w i => insW_cell _ _ _ _ _ _ _ (by omega)
  have hc2 : ∀ (w : World) (i : Nat), (insW w (W.heap.size + 1 + 1) 0 (.agg #[.int .i64 x, .int .i64 y]) (.int .i64 0)).cell? ⟨W.heap.size, i, none⟩ = w.cell? ⟨W.heap.size, i, none⟩ := fun w i => insW_cell _ _ _ _ _ _ _ (by omega)
  have hc3 : ∀ (w : World) (i : Nat), (insW w (W.heap.size + 1 + 1 + 1) 0 (.agg #[.int .i64 x, .int .i64 y]) (.int .i64 0)).cell? ⟨W.heap.size, i, none⟩ = w.cell? ⟨W.heap.size, i, none⟩ := fun w i => insW_cell _ _ _ _ _ _ _ (by omega)
  clear hal hsz hdr hins
  go_enter Tryz.func50, Tryz.ntmps50
  go_wp2
  go_region
  all_goals (
    clear w0 w1 w2 w3 w4 w5 w6 w7 w8 w9 w10 hc1 hc2 hc3 hmk his
    go_wp2
    go_ret
    refine ⟨_, _, _, _, rfl, bx_last (by simp only [drew_sz, alloc_sz, insW_size]), ?_, ?_, ?_, ?_, ?_, ?_⟩
    · simp only [alloc_if, insW_if, drew_if, drew_sz, alloc_sz, insW_size]; first | (simp; done) | (simp; omega)
    · simp only [Bx, alloc_if, insW_if, drew_if, drew_sz, alloc_sz, insW_size]; first | (simp; done) | (simp; omega)
    · omega
    · omega
    · omega
    · repeat first
        | exact Below.refl _ _
        | refine below_ins ?_ (by omega) _ _
        | refine Below.drew ?_
        | refine Below.alloc ?_ (by first | exact Nat.le_refl _ | (simp only [drew_sz, alloc_sz, insW_size]; omega)) _)
end Go.Proofs.YtapnnbgcdijfpaaGreatDoor

/- The rule of a question. -/
import Derived.Test.YticdaphajanbbaaGreatDoorNA
namespace Go.Proofs.YticdaphajanbbaaGreatDoor
set_option linter.unusedSimpArgs false
set_option linter.unusedVariables false
set_option maxRecDepth 100000
set_option maxHeartbeats 4000000
open Go.RowKit Go.Shelf

theorem isOne_no (p : Pt) (h : p.k = 0 ∨ p.k = 7) (W : World) : Calls Tryz.prog 25 #[.agg p.v] W fun e w' => e = .returned (.bool false) ∧ Below W.heap.size W w' := by
  obtain ⟨k, n, t, pa, a, b, na, c, d, ma, e, f, id⟩ := p
  dsimp only at h
  unfold Pt.v
  dsimp only
  obtain ⟨W1, hW1⟩ : ∃ W1, W.alloc (.cells #[.int .i64 k, .int .i64 n, .string t, .slice pa a b, .slice na c d, .slice ma e f, .int .i64 id] 38) = W1 := ⟨_, rfl⟩
  have hx : Bx W1 W.heap.size #[.int .i64 k, .int .i64 n, .string t, .slice pa a b, .slice na c d, .slice ma e f, .int .i64 id] 38 := by rw [← hW1]; exact al_at W _
  have hb : Below W.heap.size W W1 := by rw [← hW1]; exact (Below.refl _ W).alloc (Nat.le_refl _) _
  have HB := hide hb
  rcases h with rfl | rfl
  all_goals
    have c0 := hx.cell 0 rfl
    have hl := hx.lt
    clear hx hb
    go_enter Tryz.func25, Tryz.ntmps25
    go_wp2
    go_ret
    exact ⟨rfl, unhide HB⟩
/-- Does a test need a type of one value? -/
def needP (k : Int) : Bool := k == 2 || k == 5
theorem needs_any (q : Qn) (W : World) : Calls Tryz.prog 24 #[.agg q.v] W fun e w' => e = .returned (.bool (needP q.tk)) ∧ Below W.heap.size W w' := by
  obtain ⟨tk, tt, ty, ar, k, n, t, pa, a, b, na, c, d, ma, e, f, id⟩ := q
  unfold Qn.v
  dsimp only
  obtain ⟨W1, hW1⟩ : ∃ W1, W.alloc (.cells #[.int .i64 tk, .string tt, .int .i64 ty, .pointer ar, .int .i64 k, .int .i64 n, .string t, .slice pa a b, .slice na c d, .slice ma e f, .int .i64 id] 40) = W1 := ⟨_, rfl⟩
  have hx : Bx W1 W.heap.size #[.int .i64 tk, .string tt, .int .i64 ty, .pointer ar, .int .i64 k, .int .i64 n, .string t, .slice pa a b, .slice na c d, .slice ma e f, .int .i64 id] 40 := by rw [← hW1]; exact al_at W _
  have hb : Below W.heap.size W W1 := by rw [← hW1]; exact (Below.refl _ W).alloc (Nat.le_refl _) _
  have HB := hide hb
  have c0 := hx.cell 0 rfl
  have hl := hx.lt
  clear hx hb
  cases h2 : (tk == 2) <;> cases h5 : (tk == 5)
  all_goals
    go_enter Tryz.func24, Tryz.ntmps24
    go_wp2
    go_ret
    exact ⟨by simp [needP, h2, h5], unhide HB⟩
theorem info65 : (Tryz.prog.info? 65).map (·.size) = some 6 := by kernel_rfl
/-- The rules of a question, as they lie in the table. -/
def tabV (Q : Array Value) : Array Value := #[.nilFunc, .func (.func 19) #[.agg Q] #[], .func (.func 20) #[.agg Q] #[], .func (.func 21) #[.agg Q] #[], .func (.func 22) #[.agg Q] #[], .func (.func 23) #[.agg Q] #[]]
theorem one65 (Q : Array Value) : (tabV Q).all (·.oneCell') = true := by simp [tabV, Value.oneCell']
/-- What rule stands on. -/
theorem rule_mem (q : Qn) (W W1 W2 : World) (h1 : W.alloc (.cells q.v 40) = W1) (cs : Array Value) (h2 : (W1.alloc (.cells cs 65)).setRow W1.heap.size (tabV q.v) = W2) (hcs : cs.size = 6) : Bx W2 W.heap.size q.v 40 ∧ Bx W2 W1.heap.size (tabV q.v) 65 ∧ Below W.heap.size W W2 := by
  have hx : Bx W1 W.heap.size q.v 40 := by rw [← h1]; exact al_at W _
  have hb : Below W.heap.size W W1 := by rw [← h1]; exact (Below.refl _ W).alloc (Nat.le_refl _) _
  have hl := hx.lt
  refine ⟨?_, ?_, ?_⟩
  · rw [← h2]; exact (heap_setRow_ne _ _ _ _ (by omega)).trans ((Below.heap_alloc _ _ _ hl).trans hx)
  · rw [← h2]; exact setRow_heap _ _ _ _ _ _ (al_at W1 _)
  · rw [← h2]; exact below_row (hb.alloc hb.size _) hb.size _
theorem cells11 {w : World} {b t : Nat} {x0 x1 x2 x3 x4 x5 x6 x7 x8 x9 x10 : Value} (h : Bx w b #[x0, x1, x2, x3, x4, x5, x6, x7, x8, x9, x10] t) : w.cell? ⟨b, 0, none⟩ = some x0 ∧ w.cell? ⟨b, 1, none⟩ = some x1 ∧ w.cell? ⟨b, 2, none⟩ = some x2 ∧ w.cell? ⟨b, 3, none⟩ = some x3 ∧ w.cell? ⟨b, 4, none⟩ = some x4 ∧ w.cell? ⟨b, 5, none⟩ = some x5 ∧ w.cell? ⟨b, 6, none⟩ = some x6 ∧ w.cell? ⟨b, 7, none⟩ = some x7 ∧ w.cell? ⟨b, 8, none⟩ = some x8 ∧ w.cell? ⟨b, 9, none⟩ = some x9 ∧ w.cell? ⟨b, 10, none⟩ = some x10 :=
  ⟨h.cell 0 rfl, h.cell 1 rfl, h.cell 2 rfl, h.cell 3 rfl, h.cell 4 rfl, h.cell 5 rfl, h.cell 6 rfl, h.cell 7 rfl, h.cell 8 rfl, h.cell 9 rfl, h.cell 10 rfl⟩
end Go.Proofs.YticdaphajanbbaaGreatDoor

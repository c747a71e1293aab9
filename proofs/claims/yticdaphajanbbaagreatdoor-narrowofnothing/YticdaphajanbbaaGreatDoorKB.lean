/- At, of a number that no type has; heavy. -/
import Derived.Test.YticdaphajanbbaaGreatDoorKA
namespace Go.Proofs.YticdaphajanbbaaGreatDoor
set_option linter.unusedSimpArgs false
set_option linter.unusedVariables false
set_option maxRecDepth 100000
set_option maxHeartbeats 2000000
open Go.RowKit

theorem al_at (w : World) (b : Obj) : (w.alloc b).heap[w.heap.size]? = some b := by show (w.heap.push b)[_]? = _; simp
/-- A result that lies in a cell, and one in a slot. -/
theorem results_cell2 {P : Program} {fn : Func} {p u : Tmp} {ty : TypeId} (h : fn.results = #[.cell p ty, .tmp u]) (tmps : Array Value) (w : World) (g : Nat) (t : TypeId) (cs : Array Value) (fr : Nat × Nat) (d : TypeDesc)
    (hp : tmps.getD p undef = .pointer (some ⟨g, 0, none⟩)) (hg : w.heap[g]? = some (.cells cs t fr))
    (hu : P.underlying ty = some d) (hd : (match d with | .struct _ | .array _ _ => true | _ => false) = true) (hi : (P.info? ty).map (·.size) = some cs.size) :
    (results fn tmps).run P w = .ok (.tuple #[.agg cs, tmps.getD u undef]) w := by
  have hp' : tmps[p]?.getD undef = .pointer (some ⟨g, 0, none⟩) := by simpa using hp
  simp [results, h, hp', asAddr, run_loadVar_row w g t ty cs fr d hg hu hd hi]
def tyZ : Array Value := #[.int .i64 0, .int .i64 0, .string ⟨#[]⟩, .slice none 0 0, .slice none 0 0, .slice none 0 0]
theorem at_nil (w : World) (id : Int) : Calls Tryz.prog 37 #[.pointer none, .int .i64 id] w fun e w' => e = .returned (.tuple #[.agg tyZ, .int .i64 1]) ∧ Below w.heap.size w w' := by
  go_enter Tryz.func37, Tryz.ntmps37
  go_wp2
  refine bodyPost_ret (results_cell2 rfl _ _ w.heap.size 36 tyZ (0, 0) _ rfl (al_at w _) Tryz.underlying36 rfl rfl) rfl ?_
  exact ⟨rfl, (Below.refl _ w).alloc (Nat.le_refl _) _⟩
theorem at_no (w : World) (M : Nat) (a : Option Addr) (n c : Nat) (h : w.cell? ⟨M, 0, none⟩ = some (.slice a n c)) (id : Int) (hn : ¬ (0 ≤ id ∧ id < (n : Int))) : Calls Tryz.prog 37 #[.pointer (some ⟨M, 0, none⟩), .int .i64 id] w fun e w' => e = .returned (.tuple #[.agg tyZ, .int .i64 11]) ∧ Below w.heap.size w w' := by
  have h' : (w.alloc (.cells tyZ 36)).cell? ⟨M, 0, none⟩ = some (.slice a n c) := by
    have := ((Below.refl w.heap.size w).alloc (Nat.le_refl _) (.cells tyZ 36)).cell (p := ⟨M, 0, none⟩) (World.block_lt_of_cell? w _ h)
    rw [this]; exact h
  have HH := hide (has_no _ M a n c h' id hn)
  clear h hn h'
  unfold tyZ at HH
  go_enter Tryz.func37, Tryz.ntmps37
  go_wp2_with (go_at_call 44; refine (unhide HH).mono ?_; rintro e w' ⟨rfl, rfl⟩)
  refine bodyPost_ret (results_cell2 rfl _ _ w.heap.size 36 tyZ (0, 0) _ rfl (al_at w _) Tryz.underlying36 rfl rfl) rfl ?_
  exact ⟨rfl, (Below.refl _ w).alloc (Nat.le_refl _) _⟩
end Go.Proofs.YticdaphajanbbaaGreatDoor

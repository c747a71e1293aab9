/- Parts, questions: the small functions of narrow. -/
import Derived.Laws.EntriesVeiled
import Derived.Test.YticdaphajanbbaaGreatDoorKM
namespace Go.Proofs.YticdaphajanbbaaGreatDoor
set_option linter.unusedSimpArgs false
set_option linter.unusedVariables false
set_option maxRecDepth 100000
set_option maxHeartbeats 4000000
open Go.RowKit Go.Shelf

/-- A part, as a value. -/
structure Pt where
  k : Int
  n : Int
  t : ByteArray
  pa : Option Addr
  a : Nat
  b : Nat
  na : Option Addr
  c : Nat
  d : Nat
  ma : Option Addr
  e : Nat
  f : Nat
  id : Int
def Pt.v (p : Pt) : Array Value := #[.int .i64 p.k, .int .i64 p.n, .string p.t, .slice p.pa p.a p.b, .slice p.na p.c p.d, .slice p.ma p.e p.f, .int .i64 p.id]
/-- A question, as a value. -/
structure Qn where
  tk : Int
  tt : ByteArray
  ty : Int
  ar : Option Addr
  p : Pt
def Qn.v (q : Qn) : Array Value := #[.int .i64 q.tk, .string q.tt, .int .i64 q.ty, .pointer q.ar, .int .i64 q.p.k, .int .i64 q.p.n, .string q.p.t, .slice q.p.pa q.p.a q.p.b, .slice q.p.na q.p.c q.p.d, .slice q.p.ma q.p.e q.p.f, .int .i64 q.p.id]
theorem info38 : (Tryz.prog.info? 38).map (·.size) = some 7 := by kernel_rfl
theorem info40 : (Tryz.prog.info? 40).map (·.size) = some 11 := by kernel_rfl
theorem info23 : (Tryz.prog.info? 23).map (·.size) = some 3 := by kernel_rfl
theorem one7 (p : Pt) : p.v.all (·.oneCell') = true := by simp [Pt.v, Value.oneCell']
theorem one11 (q : Qn) : q.v.all (·.oneCell') = true := by simp [Qn.v, Value.oneCell']
/-- What sure answers. -/
def sureP (b : Bool) : Int := if b then 2 else 1
theorem sure_any (b : Bool) (W : World) : Calls Tryz.prog 13 #[.bool b] W fun e w' => e = .returned (.int .i64 (sureP b)) ∧ w' = W := by
  cases b
  all_goals
    go_enter Tryz.func13, Tryz.ntmps13
    go_wp2
    go_ret
    exact ⟨rfl, rfl⟩
def numS : ByteArray := ⟨#[110, 117, 109, 98, 101, 114]⟩
def strS : ByteArray := ⟨#[115, 116, 114, 105, 110, 103]⟩
theorem typeof_any (p : Pt) (h : p.k = 7 ∨ p.k = 8) (W : World) : Calls Tryz.prog 38 #[.agg p.v] W fun e w' => e = .returned (.string (if p.k = 7 then numS else strS)) ∧ Below W.heap.size W w' := by
  obtain ⟨k, n, t, pa, a, b, na, c, d, ma, e, f, id⟩ := p
  dsimp only at h
  unfold Pt.v
  dsimp only
  obtain ⟨W1, hW1⟩ : ∃ W1, W.alloc (.cells #[.int .i64 k, .int .i64 n, .string t, .slice pa a b, .slice na c d, .slice ma e f, .int .i64 id] 38) = W1 := ⟨_, rfl⟩
  have hx : Bx W1 W.heap.size #[.int .i64 k, .int .i64 n, .string t, .slice pa a b, .slice na c d, .slice ma e f, .int .i64 id] 38 := by rw [← hW1]; exact al_at W _
  have hb : Below W.heap.size W W1 := by rw [← hW1]; exact (Below.refl _ W).alloc (Nat.le_refl _) _
  have HB := hide hb
  rcases h with rfl | rfl
  all_goals
    have c0 := hx.cell 0 rfl
    have hl := hx.lt
    clear hx hb
    go_enter Tryz.func38, Tryz.ntmps38
    go_wp2
    go_ret
    exact ⟨rfl, unhide HB⟩
/-- What a test for truth says of the ten. -/
def truthP (k : Int) : Int := if k = 4 ∨ k = 5 ∨ k = 6 ∨ k = 10 then 1 else if k = 9 then 2 else 0
theorem truth_any (q : Qn) (p : Pt) (h : 1 ≤ p.k ∧ p.k ≤ 10) (W : World) : Calls Tryz.prog 21 #[.agg q.v, .agg p.v] W fun e w' => e = .returned (.tuple #[.int .i64 (truthP p.k), .int .i64 0]) ∧ Below W.heap.size W w' := by
  obtain ⟨Q, hQ⟩ : ∃ Q, q.v = Q := ⟨_, rfl⟩
  obtain ⟨k, n, t, pa, a, b, na, c, d, ma, e, f, id⟩ := p
  dsimp only at h
  obtain ⟨W1, hW1⟩ : ∃ W1, (W.alloc (.cells q.v 40)).alloc (.cells #[.int .i64 k, .int .i64 n, .string t, .slice pa a b, .slice na c d, .slice ma e f, .int .i64 id] 38) = W1 := ⟨_, rfl⟩
  have hx : Bx W1 (W.heap.size + 1) #[.int .i64 k, .int .i64 n, .string t, .slice pa a b, .slice na c d, .slice ma e f, .int .i64 id] 38 := by
    rw [← hW1]
    have := al_at (W.alloc (.cells q.v 40)) (.cells #[.int .i64 k, .int .i64 n, .string t, .slice pa a b, .slice na c d, .slice ma e f, .int .i64 id] 38)
    simpa [Bx] using this
  have hb : Below W.heap.size W W1 := by rw [← hW1]; exact ((Below.refl _ W).alloc (Nat.le_refl _) _).alloc (by simp) _
  have HB := hide hb
  unfold Pt.v
  dsimp only
  unfold Qn.v at hW1 ⊢
  clear hQ hb
  have hc : k = 1 ∨ k = 2 ∨ k = 3 ∨ k = 4 ∨ k = 5 ∨ k = 6 ∨ k = 7 ∨ k = 8 ∨ k = 9 ∨ k = 10 := by omega
  clear h
  rcases hc with rfl | rfl | rfl | rfl | rfl | rfl | rfl | rfl | rfl | rfl
  all_goals
    have c0 := hx.cell 0 rfl
    have hl := hx.lt
    clear hx
    go_enter Tryz.func21, Tryz.ntmps21
    go_wp2
    refine bodyPost_ret (by simp [results, Tryz.results21, go_sem]; rfl) rfl ⟨rfl, unhide HB⟩
end Go.Proofs.YticdaphajanbbaaGreatDoor

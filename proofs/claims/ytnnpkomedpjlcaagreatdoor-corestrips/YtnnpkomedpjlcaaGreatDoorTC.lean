/- The table of kinds, as the three functions answer it. -/
import Derived.Laws.EntriesVeiled
import Derived.Lib.Slices
import Derived.RangeFuncBox
import Derived.Test.YtnnpkomedpjlcaaGreatDoorT1
namespace Go.Proofs.YtnnpkomedpjlcaaGreatDoor
set_option linter.unusedSimpArgs false
set_option linter.unusedVariables false
open Go.RowKit

/-- A row of the table: which functions stand in it. -/
structure RowV where
  t : Option Nat
  n : Option Nat
  k0 : Option Nat
  k1 : Option Nat
  k2 : Option Nat
  k3 : Option Nat
  m : Option Nat
  a : Option Nat
def fv : Option Nat → Value
  | none => .nilFunc
  | some f => .func (.func f) #[] #[]
def rowZ : Value := .agg #[.nilFunc, .nilFunc, .nilFunc, .nilFunc, .nilFunc, .nilFunc, .nilFunc, .nilFunc]
def RowV.val (r : RowV) : Value := .agg #[fv r.t, fv r.n, fv r.k0, fv r.k1, fv r.k2, fv r.k3, fv r.m, fv r.a]
def RowV.cells (r : RowV) : Array Value := #[fv r.t, fv r.n, fv r.k0, fv r.k1, fv r.k2, fv r.k3, fv r.m, fv r.a]
attribute [local go_sem] fv RowV.val rowZ
theorem lookup_none {k : Int} : ∀ {l : List (Int × RowV)}, k ∉ l.map (·.1) → l.lookup k = none
  | [], _ => rfl
  | (a, b) :: l, h => by
    simp only [List.map_cons, List.mem_cons, not_or] at h
    have e : (k == a) = false := by simpa using h.1
    simp only [List.lookup, e]
    exact lookup_none h.2
theorem put8_heap {W : World} {R : Nat} {x0 x1 x2 x3 x4 x5 x6 x7 : Value} (h : W.heap[R]? = some (.cells #[x0, x1, x2, x3, x4, x5, x6, x7] 74)) (y0 y1 y2 y3 y4 y5 y6 y7 : Value) : ((((((((W.setCell ⟨R, 0, none⟩ y0).setCell ⟨R, 1, none⟩ y1).setCell ⟨R, 2, none⟩ y2).setCell ⟨R, 3, none⟩ y3).setCell ⟨R, 4, none⟩ y4).setCell ⟨R, 5, none⟩ y5).setCell ⟨R, 6, none⟩ y6).setCell ⟨R, 7, none⟩ y7).heap[R]? = some (.cells #[y0, y1, y2, y3, y4, y5, y6, y7] 74) := by
  simp [World.setCell, Array.getElem?_modify, h]
theorem put8_below {W : World} {R n : Nat} (hn : n ≤ R) (y0 y1 y2 y3 y4 y5 y6 y7 : Value) : Below n W ((((((((W.setCell ⟨R, 0, none⟩ y0).setCell ⟨R, 1, none⟩ y1).setCell ⟨R, 2, none⟩ y2).setCell ⟨R, 3, none⟩ y3).setCell ⟨R, 4, none⟩ y4).setCell ⟨R, 5, none⟩ y5).setCell ⟨R, 6, none⟩ y6).setCell ⟨R, 7, none⟩ y7) := ((((((((Below.refl n W).setCell (p := ⟨R, 0, none⟩) hn _).setCell (p := ⟨R, 1, none⟩) hn _).setCell (p := ⟨R, 2, none⟩) hn _).setCell (p := ⟨R, 3, none⟩) hn _).setCell (p := ⟨R, 4, none⟩) hn _).setCell (p := ⟨R, 5, none⟩) hn _).setCell (p := ⟨R, 6, none⟩) hn _).setCell (p := ⟨R, 7, none⟩) hn _
theorem cells8 {W : World} {B : Nat} {x0 x1 x2 x3 x4 x5 x6 x7 : Value} {t : TypeId} {fr : Nat × Nat} (h : W.heap[B]? = some (.cells #[x0, x1, x2, x3, x4, x5, x6, x7] t fr)) :
    W.cell? ⟨B, 0, none⟩ = some x0 ∧ W.cell? ⟨B, 1, none⟩ = some x1 ∧ W.cell? ⟨B, 2, none⟩ = some x2 ∧ W.cell? ⟨B, 3, none⟩ = some x3 ∧ W.cell? ⟨B, 4, none⟩ = some x4 ∧ W.cell? ⟨B, 5, none⟩ = some x5 ∧ W.cell? ⟨B, 6, none⟩ = some x6 ∧ W.cell? ⟨B, 7, none⟩ = some x7 := by
  refine ⟨?_, ?_, ?_, ?_, ?_, ?_, ?_, ?_⟩ <;> rw [Lib.cell_of_heap h] <;> rfl
theorem frozen8 {W : World} {B : Nat} {C : Array Value} {t : TypeId} (h : W.heap[B]? = some (.cells C t (0, 0))) :
    W.frozen? ⟨B, 0, none⟩ = false ∧ W.frozen? ⟨B, 1, none⟩ = false ∧ W.frozen? ⟨B, 2, none⟩ = false ∧ W.frozen? ⟨B, 3, none⟩ = false ∧ W.frozen? ⟨B, 4, none⟩ = false ∧ W.frozen? ⟨B, 5, none⟩ = false ∧ W.frozen? ⟨B, 6, none⟩ = false ∧ W.frozen? ⟨B, 7, none⟩ = false := by
  refine ⟨?_, ?_, ?_, ?_, ?_, ?_, ?_, ?_⟩ <;> simp [World.frozen?, h]
/-- What a table answers. -/
def TabA (o : Option RowV) (W : World) (e : Ending) (w' : World) : Prop :=
  e = .returned (.tuple #[(match o with | some r => r.val | none => rowZ), .bool o.isSome]) ∧ Below W.heap.size W w'
theorem tabA_form (o : Option RowV) : ∃ r0 r1 r2 r3 r4 r5 r6 r7 : Option Nat, ∃ b, ∀ W e w', TabA o W e w' ↔ (e = .returned (.tuple #[.agg #[fv r0, fv r1, fv r2, fv r3, fv r4, fv r5, fv r6, fv r7], .bool b]) ∧ Below W.heap.size W w') := by
  cases o with
  | none => exact ⟨none, none, none, none, none, none, none, none, false, fun _ _ _ => Iff.rfl⟩
  | some r => exact ⟨_, _, _, _, _, _, _, _, true, fun _ _ _ => Iff.rfl⟩
theorem run_store_fv (P : Program) (w : World) (a : Addr) (m : Mode) (o : Option Nat) : (store a (fv o) m).run P w = stored P w a (fv o) m := by
  cases o
  · exact run_store_nilFunc P w a m
  · exact run_store_func P w a m _ _ _

def tabSL : List (Int × RowV) := [(40, ⟨some 67, some 122, some 123, some 92, none, none, none, none⟩), (41, ⟨some 67, none, some 95, some 69, some 123, some 121, none, none⟩), (45, ⟨some 67, none, some 95, some 69, some 123, some 121, none, none⟩), (42, ⟨some 67, none, some 95, some 124, some 125, some 126, none, none⟩), (43, ⟨some 67, none, some 62, none, none, none, none, none⟩), (44, ⟨some 67, some 127, some 123, some 128, none, none, none, none⟩), (46, ⟨none, none, some 129, some 121, none, none, none, none⟩), (47, ⟨some 67, some 130, none, none, none, none, some 131, none⟩), (48, ⟨some 67, none, some 128, none, none, none, none, none⟩), (49, ⟨some 67, none, none, none, none, none, some 132, none⟩), (50, ⟨none, none, some 133, none, none, none, none, none⟩), (51, ⟨some 67, none, some 95, some 125, some 134, none, none, none⟩), (52, ⟨some 67, none, some 95, some 65, none, none, none, none⟩), (53, ⟨none, none, some 92, some 121, some 135, none, none, none⟩), (54, ⟨none, none, some 92, some 121, none, none, none, none⟩), (55, ⟨none, none, some 136, some 128, some 128, some 121, none, none⟩), (56, ⟨some 67, some 122, some 92, some 121, none, none, none, none⟩), (57, ⟨none, none, some 128, none, none, none, none, none⟩), (58, ⟨none, none, none, none, none, none, none, none⟩), (59, ⟨none, none, none, none, none, none, none, none⟩), (65, ⟨none, none, none, none, none, none, none, none⟩), (60, ⟨none, none, some 92, none, none, none, none, none⟩), (64, ⟨none, none, some 92, none, none, none, none, none⟩), (61, ⟨none, none, some 121, some 137, some 138, none, none, some 139⟩), (62, ⟨some 67, none, some 121, none, none, none, none, none⟩), (63, ⟨none, none, none, none, none, none, some 60, none⟩), (66, ⟨some 67, some 140, some 123, none, none, none, none, none⟩), (67, ⟨some 67, none, none, none, none, none, none, none⟩)]
def tabS (k : Int) : Option RowV := match tabSL.lookup k with | some r => some r | none => none
def tabSK : List Int := [40, 41, 45, 42, 43, 44, 46, 47, 48, 49, 50, 51, 52, 53, 54, 55, 56, 57, 58, 59, 65, 60, 64, 61, 62, 63, 66, 67]
theorem tabS_not {k : Int} (h : k ∉ tabSK) : tabS k = none := by
  have e : tabSL.lookup k = none := lookup_none (show k ∉ tabSL.map (·.1) from h)
  simp only [tabS, e]
set_option maxRecDepth 100000 in
set_option maxHeartbeats 4000000 in
theorem stmtTable_in (k : Int) (hk : k ∈ tabSK) (W : World) : Calls Tryz.prog 103 #[.int .i64 k] W (TabA (tabS k) W) := by
  simp only [tabSK, List.mem_cons, List.not_mem_nil, or_false] at hk
  rcases hk with rfl | rfl | rfl | rfl | rfl | rfl | rfl | rfl | rfl | rfl | rfl | rfl | rfl | rfl | rfl | rfl | rfl | rfl | rfl | rfl | rfl | rfl | rfl | rfl | rfl | rfl | rfl | rfl
  · go_enter Tryz.func103, Tryz.ntmps103
    go_wp2
    refine bodyPost_ret (v := .tuple #[.agg #[.func (.func 67) #[] #[], .func (.func 122) #[] #[], .func (.func 123) #[] #[], .func (.func 92) #[] #[], .nilFunc, .nilFunc, .nilFunc, .nilFunc], .bool true]) ?_ rfl ⟨rfl, (Below.refl _ W).alloc (Nat.le_refl _) _⟩
    simp [results, Tryz.results103, go_sem]
  · go_enter Tryz.func103, Tryz.ntmps103
    go_wp2
    refine bodyPost_ret (v := .tuple #[.agg #[.func (.func 67) #[] #[], .nilFunc, .func (.func 95) #[] #[], .func (.func 69) #[] #[], .func (.func 123) #[] #[], .func (.func 121) #[] #[], .nilFunc, .nilFunc], .bool true]) ?_ rfl ⟨rfl, (Below.refl _ W).alloc (Nat.le_refl _) _⟩
    simp [results, Tryz.results103, go_sem]
  · go_enter Tryz.func103, Tryz.ntmps103
    go_wp2
    refine bodyPost_ret (v := .tuple #[.agg #[.func (.func 67) #[] #[], .nilFunc, .func (.func 95) #[] #[], .func (.func 69) #[] #[], .func (.func 123) #[] #[], .func (.func 121) #[] #[], .nilFunc, .nilFunc], .bool true]) ?_ rfl ⟨rfl, (Below.refl _ W).alloc (Nat.le_refl _) _⟩
    simp [results, Tryz.results103, go_sem]
  · go_enter Tryz.func103, Tryz.ntmps103
    go_wp2
    refine bodyPost_ret (v := .tuple #[.agg #[.func (.func 67) #[] #[], .nilFunc, .func (.func 95) #[] #[], .func (.func 124) #[] #[], .func (.func 125) #[] #[], .func (.func 126) #[] #[], .nilFunc, .nilFunc], .bool true]) ?_ rfl ⟨rfl, (Below.refl _ W).alloc (Nat.le_refl _) _⟩
    simp [results, Tryz.results103, go_sem]
  · go_enter Tryz.func103, Tryz.ntmps103
    go_wp2
    refine bodyPost_ret (v := .tuple #[.agg #[.func (.func 67) #[] #[], .nilFunc, .func (.func 62) #[] #[], .nilFunc, .nilFunc, .nilFunc, .nilFunc, .nilFunc], .bool true]) ?_ rfl ⟨rfl, (Below.refl _ W).alloc (Nat.le_refl _) _⟩
    simp [results, Tryz.results103, go_sem]
  · go_enter Tryz.func103, Tryz.ntmps103
    go_wp2
    refine bodyPost_ret (v := .tuple #[.agg #[.func (.func 67) #[] #[], .func (.func 127) #[] #[], .func (.func 123) #[] #[], .func (.func 128) #[] #[], .nilFunc, .nilFunc, .nilFunc, .nilFunc], .bool true]) ?_ rfl ⟨rfl, (Below.refl _ W).alloc (Nat.le_refl _) _⟩
    simp [results, Tryz.results103, go_sem]
  · go_enter Tryz.func103, Tryz.ntmps103
    go_wp2
    refine bodyPost_ret (v := .tuple #[.agg #[.nilFunc, .nilFunc, .func (.func 129) #[] #[], .func (.func 121) #[] #[], .nilFunc, .nilFunc, .nilFunc, .nilFunc], .bool true]) ?_ rfl ⟨rfl, (Below.refl _ W).alloc (Nat.le_refl _) _⟩
    simp [results, Tryz.results103, go_sem]
  · go_enter Tryz.func103, Tryz.ntmps103
    go_wp2
    refine bodyPost_ret (v := .tuple #[.agg #[.func (.func 67) #[] #[], .func (.func 130) #[] #[], .nilFunc, .nilFunc, .nilFunc, .nilFunc, .func (.func 131) #[] #[], .nilFunc], .bool true]) ?_ rfl ⟨rfl, (Below.refl _ W).alloc (Nat.le_refl _) _⟩
    simp [results, Tryz.results103, go_sem]
  · go_enter Tryz.func103, Tryz.ntmps103
    go_wp2
    refine bodyPost_ret (v := .tuple #[.agg #[.func (.func 67) #[] #[], .nilFunc, .func (.func 128) #[] #[], .nilFunc, .nilFunc, .nilFunc, .nilFunc, .nilFunc], .bool true]) ?_ rfl ⟨rfl, (Below.refl _ W).alloc (Nat.le_refl _) _⟩
    simp [results, Tryz.results103, go_sem]
  · go_enter Tryz.func103, Tryz.ntmps103
    go_wp2
    refine bodyPost_ret (v := .tuple #[.agg #[.func (.func 67) #[] #[], .nilFunc, .nilFunc, .nilFunc, .nilFunc, .nilFunc, .func (.func 132) #[] #[], .nilFunc], .bool true]) ?_ rfl ⟨rfl, (Below.refl _ W).alloc (Nat.le_refl _) _⟩
    simp [results, Tryz.results103, go_sem]
  · go_enter Tryz.func103, Tryz.ntmps103
    go_wp2
    refine bodyPost_ret (v := .tuple #[.agg #[.nilFunc, .nilFunc, .func (.func 133) #[] #[], .nilFunc, .nilFunc, .nilFunc, .nilFunc, .nilFunc], .bool true]) ?_ rfl ⟨rfl, (Below.refl _ W).alloc (Nat.le_refl _) _⟩
    simp [results, Tryz.results103, go_sem]
  · go_enter Tryz.func103, Tryz.ntmps103
    go_wp2
    refine bodyPost_ret (v := .tuple #[.agg #[.func (.func 67) #[] #[], .nilFunc, .func (.func 95) #[] #[], .func (.func 125) #[] #[], .func (.func 134) #[] #[], .nilFunc, .nilFunc, .nilFunc], .bool true]) ?_ rfl ⟨rfl, (Below.refl _ W).alloc (Nat.le_refl _) _⟩
    simp [results, Tryz.results103, go_sem]
  · go_enter Tryz.func103, Tryz.ntmps103
    go_wp2
    refine bodyPost_ret (v := .tuple #[.agg #[.func (.func 67) #[] #[], .nilFunc, .func (.func 95) #[] #[], .func (.func 65) #[] #[], .nilFunc, .nilFunc, .nilFunc, .nilFunc], .bool true]) ?_ rfl ⟨rfl, (Below.refl _ W).alloc (Nat.le_refl _) _⟩
    simp [results, Tryz.results103, go_sem]
  · go_enter Tryz.func103, Tryz.ntmps103
    go_wp2
    refine bodyPost_ret (v := .tuple #[.agg #[.nilFunc, .nilFunc, .func (.func 92) #[] #[], .func (.func 121) #[] #[], .func (.func 135) #[] #[], .nilFunc, .nilFunc, .nilFunc], .bool true]) ?_ rfl ⟨rfl, (Below.refl _ W).alloc (Nat.le_refl _) _⟩
    simp [results, Tryz.results103, go_sem]
  · go_enter Tryz.func103, Tryz.ntmps103
    go_wp2
    refine bodyPost_ret (v := .tuple #[.agg #[.nilFunc, .nilFunc, .func (.func 92) #[] #[], .func (.func 121) #[] #[], .nilFunc, .nilFunc, .nilFunc, .nilFunc], .bool true]) ?_ rfl ⟨rfl, (Below.refl _ W).alloc (Nat.le_refl _) _⟩
    simp [results, Tryz.results103, go_sem]
  · go_enter Tryz.func103, Tryz.ntmps103
    go_wp2
    refine bodyPost_ret (v := .tuple #[.agg #[.nilFunc, .nilFunc, .func (.func 136) #[] #[], .func (.func 128) #[] #[], .func (.func 128) #[] #[], .func (.func 121) #[] #[], .nilFunc, .nilFunc], .bool true]) ?_ rfl ⟨rfl, (Below.refl _ W).alloc (Nat.le_refl _) _⟩
    simp [results, Tryz.results103, go_sem]
  · go_enter Tryz.func103, Tryz.ntmps103
    go_wp2
    refine bodyPost_ret (v := .tuple #[.agg #[.func (.func 67) #[] #[], .func (.func 122) #[] #[], .func (.func 92) #[] #[], .func (.func 121) #[] #[], .nilFunc, .nilFunc, .nilFunc, .nilFunc], .bool true]) ?_ rfl ⟨rfl, (Below.refl _ W).alloc (Nat.le_refl _) _⟩
    simp [results, Tryz.results103, go_sem]
  · go_enter Tryz.func103, Tryz.ntmps103
    go_wp2
    refine bodyPost_ret (v := .tuple #[.agg #[.nilFunc, .nilFunc, .func (.func 128) #[] #[], .nilFunc, .nilFunc, .nilFunc, .nilFunc, .nilFunc], .bool true]) ?_ rfl ⟨rfl, (Below.refl _ W).alloc (Nat.le_refl _) _⟩
    simp [results, Tryz.results103, go_sem]
  · go_enter Tryz.func103, Tryz.ntmps103
    go_wp2
    refine bodyPost_ret (v := .tuple #[.agg #[.nilFunc, .nilFunc, .nilFunc, .nilFunc, .nilFunc, .nilFunc, .nilFunc, .nilFunc], .bool true]) ?_ rfl ⟨rfl, (Below.refl _ W).alloc (Nat.le_refl _) _⟩
    simp [results, Tryz.results103, go_sem]
  · go_enter Tryz.func103, Tryz.ntmps103
    go_wp2
    refine bodyPost_ret (v := .tuple #[.agg #[.nilFunc, .nilFunc, .nilFunc, .nilFunc, .nilFunc, .nilFunc, .nilFunc, .nilFunc], .bool true]) ?_ rfl ⟨rfl, (Below.refl _ W).alloc (Nat.le_refl _) _⟩
    simp [results, Tryz.results103, go_sem]
  · go_enter Tryz.func103, Tryz.ntmps103
    go_wp2
    refine bodyPost_ret (v := .tuple #[.agg #[.nilFunc, .nilFunc, .nilFunc, .nilFunc, .nilFunc, .nilFunc, .nilFunc, .nilFunc], .bool true]) ?_ rfl ⟨rfl, (Below.refl _ W).alloc (Nat.le_refl _) _⟩
    simp [results, Tryz.results103, go_sem]
  · go_enter Tryz.func103, Tryz.ntmps103
    go_wp2
    refine bodyPost_ret (v := .tuple #[.agg #[.nilFunc, .nilFunc, .func (.func 92) #[] #[], .nilFunc, .nilFunc, .nilFunc, .nilFunc, .nilFunc], .bool true]) ?_ rfl ⟨rfl, (Below.refl _ W).alloc (Nat.le_refl _) _⟩
    simp [results, Tryz.results103, go_sem]
  · go_enter Tryz.func103, Tryz.ntmps103
    go_wp2
    refine bodyPost_ret (v := .tuple #[.agg #[.nilFunc, .nilFunc, .func (.func 92) #[] #[], .nilFunc, .nilFunc, .nilFunc, .nilFunc, .nilFunc], .bool true]) ?_ rfl ⟨rfl, (Below.refl _ W).alloc (Nat.le_refl _) _⟩
    simp [results, Tryz.results103, go_sem]
  · go_enter Tryz.func103, Tryz.ntmps103
    go_wp2
    refine bodyPost_ret (v := .tuple #[.agg #[.nilFunc, .nilFunc, .func (.func 121) #[] #[], .func (.func 137) #[] #[], .func (.func 138) #[] #[], .nilFunc, .nilFunc, .func (.func 139) #[] #[]], .bool true]) ?_ rfl ⟨rfl, (Below.refl _ W).alloc (Nat.le_refl _) _⟩
    simp [results, Tryz.results103, go_sem]
  · go_enter Tryz.func103, Tryz.ntmps103
    go_wp2
    refine bodyPost_ret (v := .tuple #[.agg #[.func (.func 67) #[] #[], .nilFunc, .func (.func 121) #[] #[], .nilFunc, .nilFunc, .nilFunc, .nilFunc, .nilFunc], .bool true]) ?_ rfl ⟨rfl, (Below.refl _ W).alloc (Nat.le_refl _) _⟩
    simp [results, Tryz.results103, go_sem]
  · go_enter Tryz.func103, Tryz.ntmps103
    go_wp2
    refine bodyPost_ret (v := .tuple #[.agg #[.nilFunc, .nilFunc, .nilFunc, .nilFunc, .nilFunc, .nilFunc, .func (.func 60) #[] #[], .nilFunc], .bool true]) ?_ rfl ⟨rfl, (Below.refl _ W).alloc (Nat.le_refl _) _⟩
    simp [results, Tryz.results103, go_sem]
  · go_enter Tryz.func103, Tryz.ntmps103
    go_wp2
    refine bodyPost_ret (v := .tuple #[.agg #[.func (.func 67) #[] #[], .func (.func 140) #[] #[], .func (.func 123) #[] #[], .nilFunc, .nilFunc, .nilFunc, .nilFunc, .nilFunc], .bool true]) ?_ rfl ⟨rfl, (Below.refl _ W).alloc (Nat.le_refl _) _⟩
    simp [results, Tryz.results103, go_sem]
  · go_enter Tryz.func103, Tryz.ntmps103
    go_wp2
    refine bodyPost_ret (v := .tuple #[.agg #[.func (.func 67) #[] #[], .nilFunc, .nilFunc, .nilFunc, .nilFunc, .nilFunc, .nilFunc, .nilFunc], .bool true]) ?_ rfl ⟨rfl, (Below.refl _ W).alloc (Nat.le_refl _) _⟩
    simp [results, Tryz.results103, go_sem]
set_option maxRecDepth 100000 in
set_option maxHeartbeats 4000000 in
theorem stmtTable_out (k : Int) (hk : k ∉ tabSK) (W : World) : Calls Tryz.prog 103 #[.int .i64 k] W (TabA (tabS k) W) := by
  rw [tabS_not hk]
  have q0 : (k == 40) = false := by simp only [beq_eq_false_iff_ne, ne_eq]; intro e; subst e; exact absurd hk (by decide)
  have q1 : (k == 41) = false := by simp only [beq_eq_false_iff_ne, ne_eq]; intro e; subst e; exact absurd hk (by decide)
  have q2 : (k == 45) = false := by simp only [beq_eq_false_iff_ne, ne_eq]; intro e; subst e; exact absurd hk (by decide)
  have q3 : (k == 42) = false := by simp only [beq_eq_false_iff_ne, ne_eq]; intro e; subst e; exact absurd hk (by decide)
  have q4 : (k == 43) = false := by simp only [beq_eq_false_iff_ne, ne_eq]; intro e; subst e; exact absurd hk (by decide)
  have q5 : (k == 44) = false := by simp only [beq_eq_false_iff_ne, ne_eq]; intro e; subst e; exact absurd hk (by decide)
  have q6 : (k == 46) = false := by simp only [beq_eq_false_iff_ne, ne_eq]; intro e; subst e; exact absurd hk (by decide)
  have q7 : (k == 47) = false := by simp only [beq_eq_false_iff_ne, ne_eq]; intro e; subst e; exact absurd hk (by decide)
  have q8 : (k == 48) = false := by simp only [beq_eq_false_iff_ne, ne_eq]; intro e; subst e; exact absurd hk (by decide)
  have q9 : (k == 49) = false := by simp only [beq_eq_false_iff_ne, ne_eq]; intro e; subst e; exact absurd hk (by decide)
  have q10 : (k == 50) = false := by simp only [beq_eq_false_iff_ne, ne_eq]; intro e; subst e; exact absurd hk (by decide)
  have q11 : (k == 51) = false := by simp only [beq_eq_false_iff_ne, ne_eq]; intro e; subst e; exact absurd hk (by decide)
  have q12 : (k == 52) = false := by simp only [beq_eq_false_iff_ne, ne_eq]; intro e; subst e; exact absurd hk (by decide)
  have q13 : (k == 53) = false := by simp only [beq_eq_false_iff_ne, ne_eq]; intro e; subst e; exact absurd hk (by decide)
  have q14 : (k == 54) = false := by simp only [beq_eq_false_iff_ne, ne_eq]; intro e; subst e; exact absurd hk (by decide)
  have q15 : (k == 55) = false := by simp only [beq_eq_false_iff_ne, ne_eq]; intro e; subst e; exact absurd hk (by decide)
  have q16 : (k == 56) = false := by simp only [beq_eq_false_iff_ne, ne_eq]; intro e; subst e; exact absurd hk (by decide)
  have q17 : (k == 57) = false := by simp only [beq_eq_false_iff_ne, ne_eq]; intro e; subst e; exact absurd hk (by decide)
  have q18 : (k == 58) = false := by simp only [beq_eq_false_iff_ne, ne_eq]; intro e; subst e; exact absurd hk (by decide)
  have q19 : (k == 59) = false := by simp only [beq_eq_false_iff_ne, ne_eq]; intro e; subst e; exact absurd hk (by decide)
  have q20 : (k == 65) = false := by simp only [beq_eq_false_iff_ne, ne_eq]; intro e; subst e; exact absurd hk (by decide)
  have q21 : (k == 60) = false := by simp only [beq_eq_false_iff_ne, ne_eq]; intro e; subst e; exact absurd hk (by decide)
  have q22 : (k == 64) = false := by simp only [beq_eq_false_iff_ne, ne_eq]; intro e; subst e; exact absurd hk (by decide)
  have q23 : (k == 61) = false := by simp only [beq_eq_false_iff_ne, ne_eq]; intro e; subst e; exact absurd hk (by decide)
  have q24 : (k == 62) = false := by simp only [beq_eq_false_iff_ne, ne_eq]; intro e; subst e; exact absurd hk (by decide)
  have q25 : (k == 63) = false := by simp only [beq_eq_false_iff_ne, ne_eq]; intro e; subst e; exact absurd hk (by decide)
  have q26 : (k == 66) = false := by simp only [beq_eq_false_iff_ne, ne_eq]; intro e; subst e; exact absurd hk (by decide)
  have q27 : (k == 67) = false := by simp only [beq_eq_false_iff_ne, ne_eq]; intro e; subst e; exact absurd hk (by decide)
  clear hk
  go_enter Tryz.func103, Tryz.ntmps103
  go_wp2
  refine bodyPost_ret (v := .tuple #[.agg #[.nilFunc, .nilFunc, .nilFunc, .nilFunc, .nilFunc, .nilFunc, .nilFunc, .nilFunc], .bool false]) ?_ rfl ⟨rfl, (Below.refl _ W).alloc (Nat.le_refl _) _⟩
  simp [results, Tryz.results103, go_sem]
theorem stmtTable_any (k : Int) (W : World) : Calls Tryz.prog 103 #[.int .i64 k] W (TabA (tabS k) W) := by
  by_cases hk : k ∈ tabSK
  · exact stmtTable_in k hk W
  · exact stmtTable_out k hk W

end Go.Proofs.YtnnpkomedpjlcaaGreatDoor

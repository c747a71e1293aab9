/- Towards the law: TC TD. -/
import Derived.Laws.EntriesVeiled
import Derived.Lib.Slices
import Derived.RangeFuncBox
import Derived.Test.YtofgphapjjofnaaGreatDoorZA
set_option linter.unusedSimpArgs false
set_option linter.unusedVariables false
set_option maxRecDepth 100000
set_option maxHeartbeats 8000000
namespace Go.Proofs.YtofgphapjjofnaaGreatDoor.Tr
section
open Go.RowKit
structure RowV where
 t : Option Nat
 n : Option Nat
 k0 : Option Nat
 k1 : Option Nat
 k2 : Option Nat
 k3 : Option Nat
 m : Option Nat
 a : Option Nat
def fv : Option Nat → Value
 | none => .nilFunc
 | some f => .func (.func f) #[] #[]
def rowZ : Value := .agg #[.nilFunc, .nilFunc, .nilFunc, .nilFunc, .nilFunc, .nilFunc, .nilFunc, .nilFunc]
def RowV.val (r : RowV) : Value := .agg #[fv r.t, fv r.n, fv r.k0, fv r.k1, fv r.k2, fv r.k3, fv r.m, fv r.a]
def RowV.cells (r : RowV) : Array Value := #[fv r.t, fv r.n, fv r.k0, fv r.k1, fv r.k2, fv r.k3, fv r.m, fv r.a]
attribute [local go_sem] fv RowV.val rowZ
theorem lookup_none {k : Int} : ∀ {l : List (Int × RowV)}, k ∉ l.map (·.1) → l.lookup k = none
 | [], _ => rfl
 | (a, b) :: l, h => by
   simp only [List.map_cons, List.mem_cons, not_or] at h;have e : (k == a) = false := by simpa using h.1
   simp only [List.lookup, e];exact lookup_none h.2
theorem put8_heap {W : World} {R : Nat} {x0 x1 x2 x3 x4 x5 x6 x7 : Value} (h : W.heap[R]? = some (.cells #[x0, x1, x2, x3, x4, x5, x6, x7] 81)) (y0 y1 y2 y3 y4 y5 y6 y7 : Value) : ((((((((W.setCell ⟨R, 0, none⟩ y0).setCell ⟨R, 1, none⟩ y1).setCell ⟨R, 2, none⟩ y2).setCell ⟨R, 3, none⟩ y3).setCell ⟨R, 4, none⟩ y4).setCell ⟨R, 5, none⟩ y5).setCell ⟨R, 6, none⟩ y6).setCell ⟨R, 7, none⟩ y7).heap[R]? = some (.cells #[y0, y1, y2, y3, y4, y5, y6, y7] 81) := by
 simp [World.setCell, Array.getElem?_modify, h]
theorem put8_below {W : World} {R n : Nat} (hn : n ≤ R) (y0 y1 y2 y3 y4 y5 y6 y7 : Value) : Below n W ((((((((W.setCell ⟨R, 0, none⟩ y0).setCell ⟨R, 1, none⟩ y1).setCell ⟨R, 2, none⟩ y2).setCell ⟨R, 3, none⟩ y3).setCell ⟨R, 4, none⟩ y4).setCell ⟨R, 5, none⟩ y5).setCell ⟨R, 6, none⟩ y6).setCell ⟨R, 7, none⟩ y7) := ((((((((Below.refl n W).setCell (p := ⟨R, 0, none⟩) hn _).setCell (p := ⟨R, 1, none⟩) hn _).setCell (p := ⟨R, 2, none⟩) hn _).setCell (p := ⟨R, 3, none⟩) hn _).setCell (p := ⟨R, 4, none⟩) hn _).setCell (p := ⟨R, 5, none⟩) hn _).setCell (p := ⟨R, 6, none⟩) hn _).setCell (p := ⟨R, 7, none⟩) hn _
theorem cells8 {W : World} {B : Nat} {x0 x1 x2 x3 x4 x5 x6 x7 : Value} {t : TypeId} {fr : Nat × Nat} (h : W.heap[B]? = some (.cells #[x0, x1, x2, x3, x4, x5, x6, x7] t fr)) :
 W.cell? ⟨B, 0, none⟩ = some x0 ∧ W.cell? ⟨B, 1, none⟩ = some x1 ∧ W.cell? ⟨B, 2, none⟩ = some x2 ∧ W.cell? ⟨B, 3, none⟩ = some x3 ∧ W.cell? ⟨B, 4, none⟩ = some x4 ∧ W.cell? ⟨B, 5, none⟩ = some x5 ∧ W.cell? ⟨B, 6, none⟩ = some x6 ∧ W.cell? ⟨B, 7, none⟩ = some x7 := by
 refine ⟨?_, ?_, ?_, ?_, ?_, ?_, ?_, ?_⟩ <;> rw [Lib.cell_of_heap h] <;> rfl
theorem frozen8 {W : World} {B : Nat} {C : Array Value} {t : TypeId} (h : W.heap[B]? = some (.cells C t (0, 0))) :
 W.frozen? ⟨B, 0, none⟩ = false ∧ W.frozen? ⟨B, 1, none⟩ = false ∧ W.frozen? ⟨B, 2, none⟩ = false ∧ W.frozen? ⟨B, 3, none⟩ = false ∧ W.frozen? ⟨B, 4, none⟩ = false ∧ W.frozen? ⟨B, 5, none⟩ = false ∧ W.frozen? ⟨B, 6, none⟩ = false ∧ W.frozen? ⟨B, 7, none⟩ = false := by
 refine ⟨?_, ?_, ?_, ?_, ?_, ?_, ?_, ?_⟩ <;> simp [World.frozen?, h]
def TabA (o : Option RowV) (W : World) (e : Ending) (w' : World) : Prop :=
 e = .returned (.tuple #[(match o with | some r => r.val | none => rowZ), .bool o.isSome]) ∧ Below W.heap.size W w'
theorem tabA_form (o : Option RowV) : ∃ r0 r1 r2 r3 r4 r5 r6 r7 : Option Nat, ∃ b, ∀ W e w', TabA o W e w' ↔ (e = .returned (.tuple #[.agg #[fv r0, fv r1, fv r2, fv r3, fv r4, fv r5, fv r6, fv r7], .bool b]) ∧ Below W.heap.size W w') := by
 cases o with
 | none => exact ⟨none, none, none, none, none, none, none, none, false, fun _ _ _ => Iff.rfl⟩
 | some r => exact ⟨_, _, _, _, _, _, _, _, true, fun _ _ _ => Iff.rfl⟩
theorem run_store_fv (P : Program) (w : World) (a : Addr) (m : Mode) (o : Option Nat) : (store a (fv o) m).run P w = stored P w a (fv o) m := by
 cases o
 · exact run_store_nilFunc P w a m
 · exact run_store_func P w a m _ _ _
def tabSL : List (Int × RowV) := [(40, ⟨some 82, some 173, some 174, some 128, none, none, none, none⟩), (41, ⟨some 82, none, some 131, some 84, some 174, some 172, none, none⟩), (45, ⟨some 82, none, some 131, some 84, some 174, some 172, none, none⟩), (42, ⟨some 82, none, some 131, some 175, some 176, some 177, none, none⟩), (43, ⟨some 82, none, some 77, none, none, none, none, none⟩), (44, ⟨some 82, some 178, some 174, some 179, none, none, none, none⟩), (46, ⟨none, none, some 180, some 172, none, none, none, none⟩), (47, ⟨some 82, some 181, none, none, none, none, some 182, none⟩), (48, ⟨some 82, none, some 179, none, none, none, none, none⟩), (49, ⟨some 82, none, none, none, none, none, some 183, none⟩), (50, ⟨none, none, some 184, none, none, none, none, none⟩), (51, ⟨some 82, none, some 131, some 176, some 185, none, none, none⟩), (52, ⟨some 82, none, some 131, some 80, none, none, none, none⟩), (53, ⟨none, none, some 128, some 172, some 186, none, none, none⟩), (54, ⟨none, none, some 128, some 172, none, none, none, none⟩), (55, ⟨none, none, some 187, some 179, some 179, some 172, none, none⟩), (56, ⟨some 82, some 173, some 128, some 172, none, none, none, none⟩), (57, ⟨none, none, some 179, none, none, none, none, none⟩), (58, ⟨none, none, none, none, none, none, none, none⟩), (59, ⟨none, none, none, none, none, none, none, none⟩), (65, ⟨none, none, none, none, none, none, none, none⟩), (60, ⟨none, none, some 128, none, none, none, none, none⟩), (64, ⟨none, none, some 128, none, none, none, none, none⟩), (61, ⟨none, none, some 172, some 188, some 189, none, none, some 190⟩), (62, ⟨some 82, none, some 172, none, none, none, none, none⟩), (63, ⟨none, none, none, none, none, none, some 75, none⟩), (66, ⟨some 82, some 191, some 174, none, none, none, none, none⟩), (67, ⟨some 82, none, none, none, none, none, none, none⟩)]
def tabS (k : Int) : Option RowV := match tabSL.lookup k with | some r => some r | none => none
def tabSK : List Int := [40, 41, 45, 42, 43, 44, 46, 47, 48, 49, 50, 51, 52, 53, 54, 55, 56, 57, 58, 59, 65, 60, 64, 61, 62, 63, 66, 67]
theorem tabS_not {k : Int} (h : k ∉ tabSK) : tabS k = none := by
 have e : tabSL.lookup k = none := lookup_none (show k ∉ tabSL.map (·.1) from h);simp only [tabS, e]
theorem stmtTable_in (k : Int) (hk : k ∈ tabSK) (W : World) : Calls Tryz.prog 139 #[.int .i64 k] W (TabA (tabS k) W) := by
 simp only [tabSK, List.mem_cons, List.not_mem_nil, or_false] at hk;rcases hk with rfl | rfl | rfl | rfl | rfl | rfl | rfl | rfl | rfl | rfl | rfl | rfl | rfl | rfl | rfl | rfl | rfl | rfl | rfl | rfl | rfl | rfl | rfl | rfl | rfl | rfl | rfl | rfl
 · go_enter Tryz.func139, Tryz.ntmps139
   go_wp2;refine bodyPost_ret (v := .tuple #[.agg #[.func (.func 82) #[] #[], .func (.func 173) #[] #[], .func (.func 174) #[] #[], .func (.func 128) #[] #[], .nilFunc, .nilFunc, .nilFunc, .nilFunc], .bool true]) ?_ rfl ⟨rfl, (Below.refl _ W).alloc NL _⟩;simp [results, Tryz.results139, go_sem]
 · go_enter Tryz.func139, Tryz.ntmps139
   go_wp2;refine bodyPost_ret (v := .tuple #[.agg #[.func (.func 82) #[] #[], .nilFunc, .func (.func 131) #[] #[], .func (.func 84) #[] #[], .func (.func 174) #[] #[], .func (.func 172) #[] #[], .nilFunc, .nilFunc], .bool true]) ?_ rfl ⟨rfl, (Below.refl _ W).alloc NL _⟩;simp [results, Tryz.results139, go_sem]
 · go_enter Tryz.func139, Tryz.ntmps139
   go_wp2;refine bodyPost_ret (v := .tuple #[.agg #[.func (.func 82) #[] #[], .nilFunc, .func (.func 131) #[] #[], .func (.func 84) #[] #[], .func (.func 174) #[] #[], .func (.func 172) #[] #[], .nilFunc, .nilFunc], .bool true]) ?_ rfl ⟨rfl, (Below.refl _ W).alloc NL _⟩;simp [results, Tryz.results139, go_sem]
 · go_enter Tryz.func139, Tryz.ntmps139
   go_wp2;refine bodyPost_ret (v := .tuple #[.agg #[.func (.func 82) #[] #[], .nilFunc, .func (.func 131) #[] #[], .func (.func 175) #[] #[], .func (.func 176) #[] #[], .func (.func 177) #[] #[], .nilFunc, .nilFunc], .bool true]) ?_ rfl ⟨rfl, (Below.refl _ W).alloc NL _⟩;simp [results, Tryz.results139, go_sem]
 · go_enter Tryz.func139, Tryz.ntmps139
   go_wp2;refine bodyPost_ret (v := .tuple #[.agg #[.func (.func 82) #[] #[], .nilFunc, .func (.func 77) #[] #[], .nilFunc, .nilFunc, .nilFunc, .nilFunc, .nilFunc], .bool true]) ?_ rfl ⟨rfl, (Below.refl _ W).alloc NL _⟩;simp [results, Tryz.results139, go_sem]
 · go_enter Tryz.func139, Tryz.ntmps139
   go_wp2;refine bodyPost_ret (v := .tuple #[.agg #[.func (.func 82) #[] #[], .func (.func 178) #[] #[], .func (.func 174) #[] #[], .func (.func 179) #[] #[], .nilFunc, .nilFunc, .nilFunc, .nilFunc], .bool true]) ?_ rfl ⟨rfl, (Below.refl _ W).alloc NL _⟩;simp [results, Tryz.results139, go_sem]
 · go_enter Tryz.func139, Tryz.ntmps139
   go_wp2;refine bodyPost_ret (v := .tuple #[.agg #[.nilFunc, .nilFunc, .func (.func 180) #[] #[], .func (.func 172) #[] #[], .nilFunc, .nilFunc, .nilFunc, .nilFunc], .bool true]) ?_ rfl ⟨rfl, (Below.refl _ W).alloc NL _⟩;simp [results, Tryz.results139, go_sem]
 · go_enter Tryz.func139, Tryz.ntmps139
   go_wp2;refine bodyPost_ret (v := .tuple #[.agg #[.func (.func 82) #[] #[], .func (.func 181) #[] #[], .nilFunc, .nilFunc, .nilFunc, .nilFunc, .func (.func 182) #[] #[], .nilFunc], .bool true]) ?_ rfl ⟨rfl, (Below.refl _ W).alloc NL _⟩;simp [results, Tryz.results139, go_sem]
 · go_enter Tryz.func139, Tryz.ntmps139
   go_wp2;refine bodyPost_ret (v := .tuple #[.agg #[.func (.func 82) #[] #[], .nilFunc, .func (.func 179) #[] #[], .nilFunc, .nilFunc, .nilFunc, .nilFunc, .nilFunc], .bool true]) ?_ rfl ⟨rfl, (Below.refl _ W).alloc NL _⟩;simp [results, Tryz.results139, go_sem]
 · go_enter Tryz.func139, Tryz.ntmps139
   go_wp2;refine bodyPost_ret (v := .tuple #[.agg #[.func (.func 82) #[] #[], .nilFunc, .nilFunc, .nilFunc, .nilFunc, .nilFunc, .func (.func 183) #[] #[], .nilFunc], .bool true]) ?_ rfl ⟨rfl, (Below.refl _ W).alloc NL _⟩;simp [results, Tryz.results139, go_sem]
 · go_enter Tryz.func139, Tryz.ntmps139
   go_wp2;refine bodyPost_ret (v := .tuple #[.agg #[.nilFunc, .nilFunc, .func (.func 184) #[] #[], .nilFunc, .nilFunc, .nilFunc, .nilFunc, .nilFunc], .bool true]) ?_ rfl ⟨rfl, (Below.refl _ W).alloc NL _⟩;simp [results, Tryz.results139, go_sem]
 · go_enter Tryz.func139, Tryz.ntmps139
   go_wp2;refine bodyPost_ret (v := .tuple #[.agg #[.func (.func 82) #[] #[], .nilFunc, .func (.func 131) #[] #[], .func (.func 176) #[] #[], .func (.func 185) #[] #[], .nilFunc, .nilFunc, .nilFunc], .bool true]) ?_ rfl ⟨rfl, (Below.refl _ W).alloc NL _⟩;simp [results, Tryz.results139, go_sem]
 · go_enter Tryz.func139, Tryz.ntmps139
   go_wp2;refine bodyPost_ret (v := .tuple #[.agg #[.func (.func 82) #[] #[], .nilFunc, .func (.func 131) #[] #[], .func (.func 80) #[] #[], .nilFunc, .nilFunc, .nilFunc, .nilFunc], .bool true]) ?_ rfl ⟨rfl, (Below.refl _ W).alloc NL _⟩;simp [results, Tryz.results139, go_sem]
 · go_enter Tryz.func139, Tryz.ntmps139
   go_wp2;refine bodyPost_ret (v := .tuple #[.agg #[.nilFunc, .nilFunc, .func (.func 128) #[] #[], .func (.func 172) #[] #[], .func (.func 186) #[] #[], .nilFunc, .nilFunc, .nilFunc], .bool true]) ?_ rfl ⟨rfl, (Below.refl _ W).alloc NL _⟩;simp [results, Tryz.results139, go_sem]
 · go_enter Tryz.func139, Tryz.ntmps139
   go_wp2;refine bodyPost_ret (v := .tuple #[.agg #[.nilFunc, .nilFunc, .func (.func 128) #[] #[], .func (.func 172) #[] #[], .nilFunc, .nilFunc, .nilFunc, .nilFunc], .bool true]) ?_ rfl ⟨rfl, (Below.refl _ W).alloc NL _⟩;simp [results, Tryz.results139, go_sem]
 · go_enter Tryz.func139, Tryz.ntmps139
   go_wp2;refine bodyPost_ret (v := .tuple #[.agg #[.nilFunc, .nilFunc, .func (.func 187) #[] #[], .func (.func 179) #[] #[], .func (.func 179) #[] #[], .func (.func 172) #[] #[], .nilFunc, .nilFunc], .bool true]) ?_ rfl ⟨rfl, (Below.refl _ W).alloc NL _⟩;simp [results, Tryz.results139, go_sem]
 · go_enter Tryz.func139, Tryz.ntmps139
   go_wp2;refine bodyPost_ret (v := .tuple #[.agg #[.func (.func 82) #[] #[], .func (.func 173) #[] #[], .func (.func 128) #[] #[], .func (.func 172) #[] #[], .nilFunc, .nilFunc, .nilFunc, .nilFunc], .bool true]) ?_ rfl ⟨rfl, (Below.refl _ W).alloc NL _⟩;simp [results, Tryz.results139, go_sem]
 · go_enter Tryz.func139, Tryz.ntmps139
   go_wp2;refine bodyPost_ret (v := .tuple #[.agg #[.nilFunc, .nilFunc, .func (.func 179) #[] #[], .nilFunc, .nilFunc, .nilFunc, .nilFunc, .nilFunc], .bool true]) ?_ rfl ⟨rfl, (Below.refl _ W).alloc NL _⟩;simp [results, Tryz.results139, go_sem]
 · go_enter Tryz.func139, Tryz.ntmps139
   go_wp2;refine bodyPost_ret (v := .tuple #[.agg #[.nilFunc, .nilFunc, .nilFunc, .nilFunc, .nilFunc, .nilFunc, .nilFunc, .nilFunc], .bool true]) ?_ rfl ⟨rfl, (Below.refl _ W).alloc NL _⟩;simp [results, Tryz.results139, go_sem]
 · go_enter Tryz.func139, Tryz.ntmps139
   go_wp2;refine bodyPost_ret (v := .tuple #[.agg #[.nilFunc, .nilFunc, .nilFunc, .nilFunc, .nilFunc, .nilFunc, .nilFunc, .nilFunc], .bool true]) ?_ rfl ⟨rfl, (Below.refl _ W).alloc NL _⟩;simp [results, Tryz.results139, go_sem]
 · go_enter Tryz.func139, Tryz.ntmps139
   go_wp2;refine bodyPost_ret (v := .tuple #[.agg #[.nilFunc, .nilFunc, .nilFunc, .nilFunc, .nilFunc, .nilFunc, .nilFunc, .nilFunc], .bool true]) ?_ rfl ⟨rfl, (Below.refl _ W).alloc NL _⟩;simp [results, Tryz.results139, go_sem]
 · go_enter Tryz.func139, Tryz.ntmps139
   go_wp2;refine bodyPost_ret (v := .tuple #[.agg #[.nilFunc, .nilFunc, .func (.func 128) #[] #[], .nilFunc, .nilFunc, .nilFunc, .nilFunc, .nilFunc], .bool true]) ?_ rfl ⟨rfl, (Below.refl _ W).alloc NL _⟩;simp [results, Tryz.results139, go_sem]
 · go_enter Tryz.func139, Tryz.ntmps139
   go_wp2;refine bodyPost_ret (v := .tuple #[.agg #[.nilFunc, .nilFunc, .func (.func 128) #[] #[], .nilFunc, .nilFunc, .nilFunc, .nilFunc, .nilFunc], .bool true]) ?_ rfl ⟨rfl, (Below.refl _ W).alloc NL _⟩;simp [results, Tryz.results139, go_sem]
 · go_enter Tryz.func139, Tryz.ntmps139
   go_wp2;refine bodyPost_ret (v := .tuple #[.agg #[.nilFunc, .nilFunc, .func (.func 172) #[] #[], .func (.func 188) #[] #[], .func (.func 189) #[] #[], .nilFunc, .nilFunc, .func (.func 190) #[] #[]], .bool true]) ?_ rfl ⟨rfl, (Below.refl _ W).alloc NL _⟩;simp [results, Tryz.results139, go_sem]
 · go_enter Tryz.func139, Tryz.ntmps139
   go_wp2;refine bodyPost_ret (v := .tuple #[.agg #[.func (.func 82) #[] #[], .nilFunc, .func (.func 172) #[] #[], .nilFunc, .nilFunc, .nilFunc, .nilFunc, .nilFunc], .bool true]) ?_ rfl ⟨rfl, (Below.refl _ W).alloc NL _⟩;simp [results, Tryz.results139, go_sem]
 · go_enter Tryz.func139, Tryz.ntmps139
   go_wp2;refine bodyPost_ret (v := .tuple #[.agg #[.nilFunc, .nilFunc, .nilFunc, .nilFunc, .nilFunc, .nilFunc, .func (.func 75) #[] #[], .nilFunc], .bool true]) ?_ rfl ⟨rfl, (Below.refl _ W).alloc NL _⟩;simp [results, Tryz.results139, go_sem]
 · go_enter Tryz.func139, Tryz.ntmps139
   go_wp2;refine bodyPost_ret (v := .tuple #[.agg #[.func (.func 82) #[] #[], .func (.func 191) #[] #[], .func (.func 174) #[] #[], .nilFunc, .nilFunc, .nilFunc, .nilFunc, .nilFunc], .bool true]) ?_ rfl ⟨rfl, (Below.refl _ W).alloc NL _⟩;simp [results, Tryz.results139, go_sem]
 · go_enter Tryz.func139, Tryz.ntmps139
   go_wp2;refine bodyPost_ret (v := .tuple #[.agg #[.func (.func 82) #[] #[], .nilFunc, .nilFunc, .nilFunc, .nilFunc, .nilFunc, .nilFunc, .nilFunc], .bool true]) ?_ rfl ⟨rfl, (Below.refl _ W).alloc NL _⟩;simp [results, Tryz.results139, go_sem]
theorem stmtTable_out (k : Int) (hk : k ∉ tabSK) (W : World) : Calls Tryz.prog 139 #[.int .i64 k] W (TabA (tabS k) W) := by
 rw [tabS_not hk];have q0 : (k == 40) = false := by simp only [beq_eq_false_iff_ne, ne_eq]; intro e; subst e; exact absurd hk (by decide)
 have q1 : (k == 41) = false := by simp only [beq_eq_false_iff_ne, ne_eq]; intro e; subst e; exact absurd hk (by decide)
 have q2 : (k == 45) = false := by simp only [beq_eq_false_iff_ne, ne_eq]; intro e; subst e; exact absurd hk (by decide)
 have q3 : (k == 42) = false := by simp only [beq_eq_false_iff_ne, ne_eq]; intro e; subst e; exact absurd hk (by decide)
 have q4 : (k == 43) = false := by simp only [beq_eq_false_iff_ne, ne_eq]; intro e; subst e; exact absurd hk (by decide)
 have q5 : (k == 44) = false := by simp only [beq_eq_false_iff_ne, ne_eq]; intro e; subst e; exact absurd hk (by decide)
 have q6 : (k == 46) = false := by simp only [beq_eq_false_iff_ne, ne_eq]; intro e; subst e; exact absurd hk (by decide)
 have q7 : (k == 47) = false := by simp only [beq_eq_false_iff_ne, ne_eq]; intro e; subst e; exact absurd hk (by decide)
 have q8 : (k == 48) = false := by simp only [beq_eq_false_iff_ne, ne_eq]; intro e; subst e; exact absurd hk (by decide)
 have q9 : (k == 49) = false := by simp only [beq_eq_false_iff_ne, ne_eq]; intro e; subst e; exact absurd hk (by decide)
 have q10 : (k == 50) = false := by simp only [beq_eq_false_iff_ne, ne_eq]; intro e; subst e; exact absurd hk (by decide)
 have q11 : (k == 51) = false := by simp only [beq_eq_false_iff_ne, ne_eq]; intro e; subst e; exact absurd hk (by decide)
 have q12 : (k == 52) = false := by simp only [beq_eq_false_iff_ne, ne_eq]; intro e; subst e; exact absurd hk (by decide)
 have q13 : (k == 53) = false := by simp only [beq_eq_false_iff_ne, ne_eq]; intro e; subst e; exact absurd hk (by decide)
 have q14 : (k == 54) = false := by simp only [beq_eq_false_iff_ne, ne_eq]; intro e; subst e; exact absurd hk (by decide)
 have q15 : (k == 55) = false := by simp only [beq_eq_false_iff_ne, ne_eq]; intro e; subst e; exact absurd hk (by decide)
 have q16 : (k == 56) = false := by simp only [beq_eq_false_iff_ne, ne_eq]; intro e; subst e; exact absurd hk (by decide)
 have q17 : (k == 57) = false := by simp only [beq_eq_false_iff_ne, ne_eq]; intro e; subst e; exact absurd hk (by decide)
 have q18 : (k == 58) = false := by simp only [beq_eq_false_iff_ne, ne_eq]; intro e; subst e; exact absurd hk (by decide)
 have q19 : (k == 59) = false := by simp only [beq_eq_false_iff_ne, ne_eq]; intro e; subst e; exact absurd hk (by decide)
 have q20 : (k == 65) = false := by simp only [beq_eq_false_iff_ne, ne_eq]; intro e; subst e; exact absurd hk (by decide)
 have q21 : (k == 60) = false := by simp only [beq_eq_false_iff_ne, ne_eq]; intro e; subst e; exact absurd hk (by decide)
 have q22 : (k == 64) = false := by simp only [beq_eq_false_iff_ne, ne_eq]; intro e; subst e; exact absurd hk (by decide)
 have q23 : (k == 61) = false := by simp only [beq_eq_false_iff_ne, ne_eq]; intro e; subst e; exact absurd hk (by decide)
 have q24 : (k == 62) = false := by simp only [beq_eq_false_iff_ne, ne_eq]; intro e; subst e; exact absurd hk (by decide)
 have q25 : (k == 63) = false := by simp only [beq_eq_false_iff_ne, ne_eq]; intro e; subst e; exact absurd hk (by decide)
 have q26 : (k == 66) = false := by simp only [beq_eq_false_iff_ne, ne_eq]; intro e; subst e; exact absurd hk (by decide)
 have q27 : (k == 67) = false := by simp only [beq_eq_false_iff_ne, ne_eq]; intro e; subst e; exact absurd hk (by decide)
 clear hk;go_enter Tryz.func139, Tryz.ntmps139;go_wp2;refine bodyPost_ret (v := .tuple #[.agg #[.nilFunc, .nilFunc, .nilFunc, .nilFunc, .nilFunc, .nilFunc, .nilFunc, .nilFunc], .bool false]) ?_ rfl ⟨rfl, (Below.refl _ W).alloc NL _⟩;simp [results, Tryz.results139, go_sem]
theorem stmtTable_any (k : Int) (W : World) : Calls Tryz.prog 139 #[.int .i64 k] W (TabA (tabS k) W) := by
 by_cases hk : k ∈ tabSK
 · exact stmtTable_in k hk W
 · exact stmtTable_out k hk W
end
section
open Go.RowKit
attribute [local go_sem] run_store_fv
def tabEL : List (Int × RowV) := [(10, ⟨none, some 127, none, none, none, none, none, none⟩), (11, ⟨some 79, none, none, none, none, none, none, none⟩), (12, ⟨none, none, none, none, none, none, some 128, some 129⟩), (13, ⟨none, none, none, none, none, none, none, none⟩), (14, ⟨none, none, none, none, none, none, none, none⟩), (15, ⟨none, none, none, none, none, none, none, none⟩), (16, ⟨none, none, none, none, none, none, none, none⟩), (18, ⟨none, none, none, none, none, none, none, none⟩), (17, ⟨some 82, none, none, none, none, none, none, none⟩), (32, ⟨some 82, none, none, none, none, none, none, none⟩), (19, ⟨none, none, none, none, none, none, some 128, none⟩), (20, ⟨none, none, none, none, none, none, some 130, none⟩), (21, ⟨some 82, none, some 128, none, none, none, none, none⟩), (29, ⟨some 82, none, some 128, none, none, none, none, none⟩), (22, ⟨none, none, some 131, some 84, some 132, none, none, none⟩), (23, ⟨some 133, none, some 128, none, none, none, none, none⟩), (24, ⟨some 134, none, some 128, some 128, none, none, none, none⟩), (25, ⟨none, none, some 128, some 128, some 128, none, none, none⟩), (26, ⟨some 135, none, some 136, some 128, none, none, none, none⟩), (27, ⟨none, none, some 128, some 77, some 137, none, none, none⟩), (28, ⟨none, none, some 138, some 77, some 137, none, none, none⟩), (30, ⟨none, none, some 128, some 128, none, none, none, none⟩), (31, ⟨none, none, some 137, none, none, none, none, none⟩), (33, ⟨none, none, some 128, some 80, none, none, none, none⟩), (34, ⟨none, none, some 128, none, none, none, none, none⟩)]
def tabE (k : Int) : Option RowV := match tabEL.lookup k with | some r => some r | none => tabS k
def tabEK : List Int := [10, 11, 12, 13, 14, 15, 16, 18, 17, 32, 19, 20, 21, 29, 22, 23, 24, 25, 26, 27, 28, 30, 31, 33, 34]
theorem tabE_not {k : Int} (h : k ∉ tabEK) : tabE k = tabS k := by
 have e : tabEL.lookup k = none := lookup_none (show k ∉ tabEL.map (·.1) from h);simp only [tabE, e]
theorem exprTable_in (k : Int) (hk : k ∈ tabEK) (W : World) : Calls Tryz.prog 86 #[.int .i64 k] W (TabA (tabE k) W) := by
 simp only [tabEK, List.mem_cons, List.not_mem_nil, or_false] at hk;rcases hk with rfl | rfl | rfl | rfl | rfl | rfl | rfl | rfl | rfl | rfl | rfl | rfl | rfl | rfl | rfl | rfl | rfl | rfl | rfl | rfl | rfl | rfl | rfl | rfl | rfl
 · go_enter Tryz.func86, Tryz.ntmps86
   go_wp2;refine bodyPost_ret (v := .tuple #[.agg #[.nilFunc, .func (.func 127) #[] #[], .nilFunc, .nilFunc, .nilFunc, .nilFunc, .nilFunc, .nilFunc], .bool true]) ?_ rfl ⟨rfl, (Below.refl _ W).alloc NL _⟩;simp [results, Tryz.results86, go_sem]
 · go_enter Tryz.func86, Tryz.ntmps86
   go_wp2;refine bodyPost_ret (v := .tuple #[.agg #[.func (.func 79) #[] #[], .nilFunc, .nilFunc, .nilFunc, .nilFunc, .nilFunc, .nilFunc, .nilFunc], .bool true]) ?_ rfl ⟨rfl, (Below.refl _ W).alloc NL _⟩;simp [results, Tryz.results86, go_sem]
 · go_enter Tryz.func86, Tryz.ntmps86
   go_wp2;refine bodyPost_ret (v := .tuple #[.agg #[.nilFunc, .nilFunc, .nilFunc, .nilFunc, .nilFunc, .nilFunc, .func (.func 128) #[] #[], .func (.func 129) #[] #[]], .bool true]) ?_ rfl ⟨rfl, (Below.refl _ W).alloc NL _⟩;simp [results, Tryz.results86, go_sem]
 · go_enter Tryz.func86, Tryz.ntmps86
   go_wp2;refine bodyPost_ret (v := .tuple #[.agg #[.nilFunc, .nilFunc, .nilFunc, .nilFunc, .nilFunc, .nilFunc, .nilFunc, .nilFunc], .bool true]) ?_ rfl ⟨rfl, (Below.refl _ W).alloc NL _⟩;simp [results, Tryz.results86, go_sem]
 · go_enter Tryz.func86, Tryz.ntmps86
   go_wp2;refine bodyPost_ret (v := .tuple #[.agg #[.nilFunc, .nilFunc, .nilFunc, .nilFunc, .nilFunc, .nilFunc, .nilFunc, .nilFunc], .bool true]) ?_ rfl ⟨rfl, (Below.refl _ W).alloc NL _⟩;simp [results, Tryz.results86, go_sem]
 · go_enter Tryz.func86, Tryz.ntmps86
   go_wp2;refine bodyPost_ret (v := .tuple #[.agg #[.nilFunc, .nilFunc, .nilFunc, .nilFunc, .nilFunc, .nilFunc, .nilFunc, .nilFunc], .bool true]) ?_ rfl ⟨rfl, (Below.refl _ W).alloc NL _⟩;simp [results, Tryz.results86, go_sem]
 · go_enter Tryz.func86, Tryz.ntmps86
   go_wp2;refine bodyPost_ret (v := .tuple #[.agg #[.nilFunc, .nilFunc, .nilFunc, .nilFunc, .nilFunc, .nilFunc, .nilFunc, .nilFunc], .bool true]) ?_ rfl ⟨rfl, (Below.refl _ W).alloc NL _⟩;simp [results, Tryz.results86, go_sem]
 · go_enter Tryz.func86, Tryz.ntmps86
   go_wp2;refine bodyPost_ret (v := .tuple #[.agg #[.nilFunc, .nilFunc, .nilFunc, .nilFunc, .nilFunc, .nilFunc, .nilFunc, .nilFunc], .bool true]) ?_ rfl ⟨rfl, (Below.refl _ W).alloc NL _⟩;simp [results, Tryz.results86, go_sem]
 · go_enter Tryz.func86, Tryz.ntmps86
   go_wp2;refine bodyPost_ret (v := .tuple #[.agg #[.func (.func 82) #[] #[], .nilFunc, .nilFunc, .nilFunc, .nilFunc, .nilFunc, .nilFunc, .nilFunc], .bool true]) ?_ rfl ⟨rfl, (Below.refl _ W).alloc NL _⟩;simp [results, Tryz.results86, go_sem]
 · go_enter Tryz.func86, Tryz.ntmps86
   go_wp2;refine bodyPost_ret (v := .tuple #[.agg #[.func (.func 82) #[] #[], .nilFunc, .nilFunc, .nilFunc, .nilFunc, .nilFunc, .nilFunc, .nilFunc], .bool true]) ?_ rfl ⟨rfl, (Below.refl _ W).alloc NL _⟩;simp [results, Tryz.results86, go_sem]
 · go_enter Tryz.func86, Tryz.ntmps86
   go_wp2;refine bodyPost_ret (v := .tuple #[.agg #[.nilFunc, .nilFunc, .nilFunc, .nilFunc, .nilFunc, .nilFunc, .func (.func 128) #[] #[], .nilFunc], .bool true]) ?_ rfl ⟨rfl, (Below.refl _ W).alloc NL _⟩;simp [results, Tryz.results86, go_sem]
 · go_enter Tryz.func86, Tryz.ntmps86
   go_wp2;refine bodyPost_ret (v := .tuple #[.agg #[.nilFunc, .nilFunc, .nilFunc, .nilFunc, .nilFunc, .nilFunc, .func (.func 130) #[] #[], .nilFunc], .bool true]) ?_ rfl ⟨rfl, (Below.refl _ W).alloc NL _⟩;simp [results, Tryz.results86, go_sem]
 · go_enter Tryz.func86, Tryz.ntmps86
   go_wp2;refine bodyPost_ret (v := .tuple #[.agg #[.func (.func 82) #[] #[], .nilFunc, .func (.func 128) #[] #[], .nilFunc, .nilFunc, .nilFunc, .nilFunc, .nilFunc], .bool true]) ?_ rfl ⟨rfl, (Below.refl _ W).alloc NL _⟩;simp [results, Tryz.results86, go_sem]
 · go_enter Tryz.func86, Tryz.ntmps86
   go_wp2;refine bodyPost_ret (v := .tuple #[.agg #[.func (.func 82) #[] #[], .nilFunc, .func (.func 128) #[] #[], .nilFunc, .nilFunc, .nilFunc, .nilFunc, .nilFunc], .bool true]) ?_ rfl ⟨rfl, (Below.refl _ W).alloc NL _⟩;simp [results, Tryz.results86, go_sem]
 · go_enter Tryz.func86, Tryz.ntmps86
   go_wp2;refine bodyPost_ret (v := .tuple #[.agg #[.nilFunc, .nilFunc, .func (.func 131) #[] #[], .func (.func 84) #[] #[], .func (.func 132) #[] #[], .nilFunc, .nilFunc, .nilFunc], .bool true]) ?_ rfl ⟨rfl, (Below.refl _ W).alloc NL _⟩;simp [results, Tryz.results86, go_sem]
 · go_enter Tryz.func86, Tryz.ntmps86
   go_wp2;refine bodyPost_ret (v := .tuple #[.agg #[.func (.func 133) #[] #[], .nilFunc, .func (.func 128) #[] #[], .nilFunc, .nilFunc, .nilFunc, .nilFunc, .nilFunc], .bool true]) ?_ rfl ⟨rfl, (Below.refl _ W).alloc NL _⟩;simp [results, Tryz.results86, go_sem]
 · go_enter Tryz.func86, Tryz.ntmps86
   go_wp2;refine bodyPost_ret (v := .tuple #[.agg #[.func (.func 134) #[] #[], .nilFunc, .func (.func 128) #[] #[], .func (.func 128) #[] #[], .nilFunc, .nilFunc, .nilFunc, .nilFunc], .bool true]) ?_ rfl ⟨rfl, (Below.refl _ W).alloc NL _⟩;simp [results, Tryz.results86, go_sem]
 · go_enter Tryz.func86, Tryz.ntmps86
   go_wp2;refine bodyPost_ret (v := .tuple #[.agg #[.nilFunc, .nilFunc, .func (.func 128) #[] #[], .func (.func 128) #[] #[], .func (.func 128) #[] #[], .nilFunc, .nilFunc, .nilFunc], .bool true]) ?_ rfl ⟨rfl, (Below.refl _ W).alloc NL _⟩;simp [results, Tryz.results86, go_sem]
 · go_enter Tryz.func86, Tryz.ntmps86
   go_wp2;refine bodyPost_ret (v := .tuple #[.agg #[.func (.func 135) #[] #[], .nilFunc, .func (.func 136) #[] #[], .func (.func 128) #[] #[], .nilFunc, .nilFunc, .nilFunc, .nilFunc], .bool true]) ?_ rfl ⟨rfl, (Below.refl _ W).alloc NL _⟩;simp [results, Tryz.results86, go_sem]
 · go_enter Tryz.func86, Tryz.ntmps86
   go_wp2;refine bodyPost_ret (v := .tuple #[.agg #[.nilFunc, .nilFunc, .func (.func 128) #[] #[], .func (.func 77) #[] #[], .func (.func 137) #[] #[], .nilFunc, .nilFunc, .nilFunc], .bool true]) ?_ rfl ⟨rfl, (Below.refl _ W).alloc NL _⟩;simp [results, Tryz.results86, go_sem]
 · go_enter Tryz.func86, Tryz.ntmps86
   go_wp2;refine bodyPost_ret (v := .tuple #[.agg #[.nilFunc, .nilFunc, .func (.func 138) #[] #[], .func (.func 77) #[] #[], .func (.func 137) #[] #[], .nilFunc, .nilFunc, .nilFunc], .bool true]) ?_ rfl ⟨rfl, (Below.refl _ W).alloc NL _⟩;simp [results, Tryz.results86, go_sem]
 · go_enter Tryz.func86, Tryz.ntmps86
   go_wp2;refine bodyPost_ret (v := .tuple #[.agg #[.nilFunc, .nilFunc, .func (.func 128) #[] #[], .func (.func 128) #[] #[], .nilFunc, .nilFunc, .nilFunc, .nilFunc], .bool true]) ?_ rfl ⟨rfl, (Below.refl _ W).alloc NL _⟩;simp [results, Tryz.results86, go_sem]
 · go_enter Tryz.func86, Tryz.ntmps86
   go_wp2;refine bodyPost_ret (v := .tuple #[.agg #[.nilFunc, .nilFunc, .func (.func 137) #[] #[], .nilFunc, .nilFunc, .nilFunc, .nilFunc, .nilFunc], .bool true]) ?_ rfl ⟨rfl, (Below.refl _ W).alloc NL _⟩;simp [results, Tryz.results86, go_sem]
 · go_enter Tryz.func86, Tryz.ntmps86
   go_wp2;refine bodyPost_ret (v := .tuple #[.agg #[.nilFunc, .nilFunc, .func (.func 128) #[] #[], .func (.func 80) #[] #[], .nilFunc, .nilFunc, .nilFunc, .nilFunc], .bool true]) ?_ rfl ⟨rfl, (Below.refl _ W).alloc NL _⟩;simp [results, Tryz.results86, go_sem]
 · go_enter Tryz.func86, Tryz.ntmps86
   go_wp2;refine bodyPost_ret (v := .tuple #[.agg #[.nilFunc, .nilFunc, .func (.func 128) #[] #[], .nilFunc, .nilFunc, .nilFunc, .nilFunc, .nilFunc], .bool true]) ?_ rfl ⟨rfl, (Below.refl _ W).alloc NL _⟩;simp [results, Tryz.results86, go_sem]
theorem exprTable_out (k : Int) (hk : k ∉ tabEK) (W : World) : Calls Tryz.prog 86 #[.int .i64 k] W (TabA (tabE k) W) := by
 rw [tabE_not hk];have q0 : (k == 10) = false := by simp only [beq_eq_false_iff_ne, ne_eq]; intro e; subst e; exact absurd hk (by decide)
 have q1 : (k == 11) = false := by simp only [beq_eq_false_iff_ne, ne_eq]; intro e; subst e; exact absurd hk (by decide)
 have q2 : (k == 12) = false := by simp only [beq_eq_false_iff_ne, ne_eq]; intro e; subst e; exact absurd hk (by decide)
 have q3 : (k == 13) = false := by simp only [beq_eq_false_iff_ne, ne_eq]; intro e; subst e; exact absurd hk (by decide)
 have q4 : (k == 14) = false := by simp only [beq_eq_false_iff_ne, ne_eq]; intro e; subst e; exact absurd hk (by decide)
 have q5 : (k == 15) = false := by simp only [beq_eq_false_iff_ne, ne_eq]; intro e; subst e; exact absurd hk (by decide)
 have q6 : (k == 16) = false := by simp only [beq_eq_false_iff_ne, ne_eq]; intro e; subst e; exact absurd hk (by decide)
 have q7 : (k == 18) = false := by simp only [beq_eq_false_iff_ne, ne_eq]; intro e; subst e; exact absurd hk (by decide)
 have q8 : (k == 17) = false := by simp only [beq_eq_false_iff_ne, ne_eq]; intro e; subst e; exact absurd hk (by decide)
 have q9 : (k == 32) = false := by simp only [beq_eq_false_iff_ne, ne_eq]; intro e; subst e; exact absurd hk (by decide)
 have q10 : (k == 19) = false := by simp only [beq_eq_false_iff_ne, ne_eq]; intro e; subst e; exact absurd hk (by decide)
 have q11 : (k == 20) = false := by simp only [beq_eq_false_iff_ne, ne_eq]; intro e; subst e; exact absurd hk (by decide)
 have q12 : (k == 21) = false := by simp only [beq_eq_false_iff_ne, ne_eq]; intro e; subst e; exact absurd hk (by decide)
 have q13 : (k == 29) = false := by simp only [beq_eq_false_iff_ne, ne_eq]; intro e; subst e; exact absurd hk (by decide)
 have q14 : (k == 22) = false := by simp only [beq_eq_false_iff_ne, ne_eq]; intro e; subst e; exact absurd hk (by decide)
 have q15 : (k == 23) = false := by simp only [beq_eq_false_iff_ne, ne_eq]; intro e; subst e; exact absurd hk (by decide)
 have q16 : (k == 24) = false := by simp only [beq_eq_false_iff_ne, ne_eq]; intro e; subst e; exact absurd hk (by decide)
 have q17 : (k == 25) = false := by simp only [beq_eq_false_iff_ne, ne_eq]; intro e; subst e; exact absurd hk (by decide)
 have q18 : (k == 26) = false := by simp only [beq_eq_false_iff_ne, ne_eq]; intro e; subst e; exact absurd hk (by decide)
 have q19 : (k == 27) = false := by simp only [beq_eq_false_iff_ne, ne_eq]; intro e; subst e; exact absurd hk (by decide)
 have q20 : (k == 28) = false := by simp only [beq_eq_false_iff_ne, ne_eq]; intro e; subst e; exact absurd hk (by decide)
 have q21 : (k == 30) = false := by simp only [beq_eq_false_iff_ne, ne_eq]; intro e; subst e; exact absurd hk (by decide)
 have q22 : (k == 31) = false := by simp only [beq_eq_false_iff_ne, ne_eq]; intro e; subst e; exact absurd hk (by decide)
 have q23 : (k == 33) = false := by simp only [beq_eq_false_iff_ne, ne_eq]; intro e; subst e; exact absurd hk (by decide)
 have q24 : (k == 34) = false := by simp only [beq_eq_false_iff_ne, ne_eq]; intro e; subst e; exact absurd hk (by decide)
 clear hk;obtain ⟨r0, r1, r2, r3, r4, r5, r6, r7, b, hf⟩ := tabA_form (tabS k);have HC : Hid (∀ W, Calls Tryz.prog 139 #[.int .i64 k] W fun e w' => e = .returned (.tuple #[.agg #[fv r0, fv r1, fv r2, fv r3, fv r4, fv r5, fv r6, fv r7], .bool b]) ∧ Below W.heap.size W w') := fun W => (stmtTable_any k W).mono fun e w' h => (hf W e w').1 h
 refine Calls.mono (?_ : Calls Tryz.prog 86 #[.int .i64 k] W fun e w' => e = .returned (.tuple #[.agg #[fv r0, fv r1, fv r2, fv r3, fv r4, fv r5, fv r6, fv r7], .bool b]) ∧ Below W.heap.size W w') fun e w' h => (hf W e w').2 h
 clear hf;go_enter Tryz.func86, Tryz.ntmps86;go_wp2_with (go_at_call 139; refine (U HC _).mono ?_; rintro e w2 ⟨rfl, hB⟩; have hr2 := (hB.block W.heap.size (by simp)).trans (World.alloc_heap_new W _); obtain ⟨c0, c1, c2, c3, c4, c5, c6, c7⟩ := cells8 hr2; obtain ⟨f0, f1, f2, f3, f4, f5, f6, f7⟩ := frozen8 hr2; have hl2 : W.heap.size < w2.heap.size := Nat.lt_of_lt_of_le (by simp) hB.size; have HR2 := Hi hr2; clear hr2);have hrf := put8_heap (U HR2) (fv r0) (fv r1) (fv r2) (fv r3) (fv r4) (fv r5) (fv r6) (fv r7);obtain ⟨g0, g1, g2, g3, g4, g5, g6, g7⟩ := cells8 hrf;refine bodyPost_ret (v := .tuple #[.agg #[fv r0, fv r1, fv r2, fv r3, fv r4, fv r5, fv r6, fv r7], .bool b]) ?_ rfl ⟨rfl, ((Below.refl _ W).alloc NL _).trans ((hB.mono (by simp)).trans (put8_below NL _ _ _ _ _ _ _ _))⟩;simp [results, Tryz.results86, go_sem, g0, g1, g2, g3, g4, g5, g6, g7]
theorem exprTable_any (k : Int) (W : World) : Calls Tryz.prog 86 #[.int .i64 k] W (TabA (tabE k) W) := by
 by_cases hk : k ∈ tabEK
 · exact exprTable_in k hk W
 · exact exprTable_out k hk W
end
end Go.Proofs.YtofgphapjjofnaaGreatDoor.Tr

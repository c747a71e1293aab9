/- The table of kinds, its part table. -/
import Derived.Laws.EntriesVeiled
import Derived.Test.YtnnpkomedpjlcaaGreatDoorTD
namespace Go.Proofs.YtnnpkomedpjlcaaGreatDoor
set_option linter.unusedSimpArgs false
set_option linter.unusedVariables false
open Go.RowKit
attribute [local go_sem] run_store_fv

def tabTL : List (Int × RowV) := [(1, ⟨none, none, none, none, none, none, none, none⟩), (2, ⟨none, none, none, none, none, none, some 59, none⟩), (3, ⟨none, none, none, none, none, none, some 60, none⟩), (80, ⟨some 61, none, some 62, none, none, none, none, none⟩), (81, ⟨none, some 63, none, none, none, none, none, none⟩), (82, ⟨some 64, none, none, none, none, none, none, none⟩), (83, ⟨none, none, some 65, none, none, none, none, none⟩), (84, ⟨none, none, none, none, none, none, some 66, none⟩), (85, ⟨some 67, some 68, some 65, none, none, none, none, none⟩), (86, ⟨none, none, some 69, some 65, none, none, none, none⟩), (87, ⟨none, none, none, none, none, none, some 65, some 70⟩)]
def tabT (k : Int) : Option RowV := match tabTL.lookup k with | some r => some r | none => tabE k
def tabTK : List Int := [1, 2, 3, 80, 81, 82, 83, 84, 85, 86, 87]
theorem tabT_not {k : Int} (h : k ∉ tabTK) : tabT k = tabE k := by
  have e : tabTL.lookup k = none := lookup_none (show k ∉ tabTL.map (·.1) from h)
  simp only [tabT, e]
set_option maxRecDepth 100000 in
set_option maxHeartbeats 4000000 in
theorem table_in (k : Int) (hk : k ∈ tabTK) (W : World) : Calls Tryz.prog 52 #[.int .i64 k] W (TabA (tabT k) W) := by
  simp only [tabTK, List.mem_cons, List.not_mem_nil, or_false] at hk
  rcases hk with rfl | rfl | rfl | rfl | rfl | rfl | rfl | rfl | rfl | rfl | rfl
  · go_enter Tryz.func52, Tryz.ntmps52
    go_wp2
    refine bodyPost_ret (v := .tuple #[.agg #[.nilFunc, .nilFunc, .nilFunc, .nilFunc, .nilFunc, .nilFunc, .nilFunc, .nilFunc], .bool true]) ?_ rfl ⟨rfl, (Below.refl _ W).alloc (Nat.le_refl _) _⟩
    simp [results, Tryz.results52, go_sem]
  · go_enter Tryz.func52, Tryz.ntmps52
    go_wp2
    refine bodyPost_ret (v := .tuple #[.agg #[.nilFunc, .nilFunc, .nilFunc, .nilFunc, .nilFunc, .nilFunc, .func (.func 59) #[] #[], .nilFunc], .bool true]) ?_ rfl ⟨rfl, (Below.refl _ W).alloc (Nat.le_refl _) _⟩
    simp [results, Tryz.results52, go_sem]
  · go_enter Tryz.func52, Tryz.ntmps52
    go_wp2
    refine bodyPost_ret (v := .tuple #[.agg #[.nilFunc, .nilFunc, .nilFunc, .nilFunc, .nilFunc, .nilFunc, .func (.func 60) #[] #[], .nilFunc], .bool true]) ?_ rfl ⟨rfl, (Below.refl _ W).alloc (Nat.le_refl _) _⟩
    simp [results, Tryz.results52, go_sem]
  · go_enter Tryz.func52, Tryz.ntmps52
    go_wp2
    refine bodyPost_ret (v := .tuple #[.agg #[.func (.func 61) #[] #[], .nilFunc, .func (.func 62) #[] #[], .nilFunc, .nilFunc, .nilFunc, .nilFunc, .nilFunc], .bool true]) ?_ rfl ⟨rfl, (Below.refl _ W).alloc (Nat.le_refl _) _⟩
    simp [results, Tryz.results52, go_sem]
  · go_enter Tryz.func52, Tryz.ntmps52
    go_wp2
    refine bodyPost_ret (v := .tuple #[.agg #[.nilFunc, .func (.func 63) #[] #[], .nilFunc, .nilFunc, .nilFunc, .nilFunc, .nilFunc, .nilFunc], .bool true]) ?_ rfl ⟨rfl, (Below.refl _ W).alloc (Nat.le_refl _) _⟩
    simp [results, Tryz.results52, go_sem]
  · go_enter Tryz.func52, Tryz.ntmps52
    go_wp2
    refine bodyPost_ret (v := .tuple #[.agg #[.func (.func 64) #[] #[], .nilFunc, .nilFunc, .nilFunc, .nilFunc, .nilFunc, .nilFunc, .nilFunc], .bool true]) ?_ rfl ⟨rfl, (Below.refl _ W).alloc (Nat.le_refl _) _⟩
    simp [results, Tryz.results52, go_sem]
  · go_enter Tryz.func52, Tryz.ntmps52
    go_wp2
    refine bodyPost_ret (v := .tuple #[.agg #[.nilFunc, .nilFunc, .func (.func 65) #[] #[], .nilFunc, .nilFunc, .nilFunc, .nilFunc, .nilFunc], .bool true]) ?_ rfl ⟨rfl, (Below.refl _ W).alloc (Nat.le_refl _) _⟩
    simp [results, Tryz.results52, go_sem]
  · go_enter Tryz.func52, Tryz.ntmps52
    go_wp2
    refine bodyPost_ret (v := .tuple #[.agg #[.nilFunc, .nilFunc, .nilFunc, .nilFunc, .nilFunc, .nilFunc, .func (.func 66) #[] #[], .nilFunc], .bool true]) ?_ rfl ⟨rfl, (Below.refl _ W).alloc (Nat.le_refl _) _⟩
    simp [results, Tryz.results52, go_sem]
  · go_enter Tryz.func52, Tryz.ntmps52
    go_wp2
    refine bodyPost_ret (v := .tuple #[.agg #[.func (.func 67) #[] #[], .func (.func 68) #[] #[], .func (.func 65) #[] #[], .nilFunc, .nilFunc, .nilFunc, .nilFunc, .nilFunc], .bool true]) ?_ rfl ⟨rfl, (Below.refl _ W).alloc (Nat.le_refl _) _⟩
    simp [results, Tryz.results52, go_sem]
  · go_enter Tryz.func52, Tryz.ntmps52
    go_wp2
    refine bodyPost_ret (v := .tuple #[.agg #[.nilFunc, .nilFunc, .func (.func 69) #[] #[], .func (.func 65) #[] #[], .nilFunc, .nilFunc, .nilFunc, .nilFunc], .bool true]) ?_ rfl ⟨rfl, (Below.refl _ W).alloc (Nat.le_refl _) _⟩
    simp [results, Tryz.results52, go_sem]
  · go_enter Tryz.func52, Tryz.ntmps52
    go_wp2
    refine bodyPost_ret (v := .tuple #[.agg #[.nilFunc, .nilFunc, .nilFunc, .nilFunc, .nilFunc, .nilFunc, .func (.func 65) #[] #[], .func (.func 70) #[] #[]], .bool true]) ?_ rfl ⟨rfl, (Below.refl _ W).alloc (Nat.le_refl _) _⟩
    simp [results, Tryz.results52, go_sem]
set_option maxRecDepth 100000 in
set_option maxHeartbeats 4000000 in
theorem table_out (k : Int) (hk : k ∉ tabTK) (W : World) : Calls Tryz.prog 52 #[.int .i64 k] W (TabA (tabT k) W) := by
  rw [tabT_not hk]
  have q0 : (k == 1) = false := by simp only [beq_eq_false_iff_ne, ne_eq]; intro e; subst e; exact absurd hk (by decide)
  have q1 : (k == 2) = false := by simp only [beq_eq_false_iff_ne, ne_eq]; intro e; subst e; exact absurd hk (by decide)
  have q2 : (k == 3) = false := by simp only [beq_eq_false_iff_ne, ne_eq]; intro e; subst e; exact absurd hk (by decide)
  have q3 : (k == 80) = false := by simp only [beq_eq_false_iff_ne, ne_eq]; intro e; subst e; exact absurd hk (by decide)
  have q4 : (k == 81) = false := by simp only [beq_eq_false_iff_ne, ne_eq]; intro e; subst e; exact absurd hk (by decide)
  have q5 : (k == 82) = false := by simp only [beq_eq_false_iff_ne, ne_eq]; intro e; subst e; exact absurd hk (by decide)
  have q6 : (k == 83) = false := by simp only [beq_eq_false_iff_ne, ne_eq]; intro e; subst e; exact absurd hk (by decide)
  have q7 : (k == 84) = false := by simp only [beq_eq_false_iff_ne, ne_eq]; intro e; subst e; exact absurd hk (by decide)
  have q8 : (k == 85) = false := by simp only [beq_eq_false_iff_ne, ne_eq]; intro e; subst e; exact absurd hk (by decide)
  have q9 : (k == 86) = false := by simp only [beq_eq_false_iff_ne, ne_eq]; intro e; subst e; exact absurd hk (by decide)
  have q10 : (k == 87) = false := by simp only [beq_eq_false_iff_ne, ne_eq]; intro e; subst e; exact absurd hk (by decide)
  clear hk
  obtain ⟨r0, r1, r2, r3, r4, r5, r6, r7, b, hf⟩ := tabA_form (tabE k)
  have HC : Hid (∀ W, Calls Tryz.prog 71 #[.int .i64 k] W fun e w' => e = .returned (.tuple #[.agg #[fv r0, fv r1, fv r2, fv r3, fv r4, fv r5, fv r6, fv r7], .bool b]) ∧ Below W.heap.size W w') := fun W => (exprTable_any k W).mono fun e w' h => (hf W e w').1 h
  refine Calls.mono (?_ : Calls Tryz.prog 52 #[.int .i64 k] W fun e w' => e = .returned (.tuple #[.agg #[fv r0, fv r1, fv r2, fv r3, fv r4, fv r5, fv r6, fv r7], .bool b]) ∧ Below W.heap.size W w') fun e w' h => (hf W e w').2 h
  clear hf
  go_enter Tryz.func52, Tryz.ntmps52
  go_wp2_with (go_at_call 71; refine (unhide HC _).mono ?_; rintro e w2 ⟨rfl, hB⟩; have hr2 := (hB.block W.heap.size (by simp)).trans (World.alloc_heap_new W _); obtain ⟨c0, c1, c2, c3, c4, c5, c6, c7⟩ := cells8 hr2; obtain ⟨f0, f1, f2, f3, f4, f5, f6, f7⟩ := frozen8 hr2; have hl2 : W.heap.size < w2.heap.size := Nat.lt_of_lt_of_le (by simp) hB.size; have HR2 := hide hr2; clear hr2)
  have hrf := put8_heap (unhide HR2) (fv r0) (fv r1) (fv r2) (fv r3) (fv r4) (fv r5) (fv r6) (fv r7)
  obtain ⟨g0, g1, g2, g3, g4, g5, g6, g7⟩ := cells8 hrf
  refine bodyPost_ret (v := .tuple #[.agg #[fv r0, fv r1, fv r2, fv r3, fv r4, fv r5, fv r6, fv r7], .bool b]) ?_ rfl ⟨rfl, ((Below.refl _ W).alloc (Nat.le_refl _) _).trans ((hB.mono (by simp)).trans (put8_below (Nat.le_refl _) _ _ _ _ _ _ _ _))⟩
  simp [results, Tryz.results52, go_sem, g0, g1, g2, g3, g4, g5, g6, g7]
theorem table_any (k : Int) (W : World) : Calls Tryz.prog 52 #[.int .i64 k] W (TabA (tabT k) W) := by
  by_cases hk : k ∈ tabTK
  · exact table_in k hk W
  · exact table_out k hk W

end Go.Proofs.YtnnpkomedpjlcaaGreatDoor

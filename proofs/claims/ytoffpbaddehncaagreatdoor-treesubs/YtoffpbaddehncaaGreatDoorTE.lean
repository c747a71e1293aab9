/- The table of kinds, its part table. -/
import Derived.Laws.EntriesVeiled
import Derived.Test.YtoffpbaddehncaaGreatDoorTD
namespace Go.Proofs.YtoffpbaddehncaaGreatDoor
set_option linter.unusedSimpArgs false
set_option linter.unusedVariables false
open Go.RowKit
attribute [local go_sem] run_store_fv

def tabTL : List (Int × RowV) := [(1, ⟨none, none, none, none, none, none, none, none⟩), (2, ⟨none, none, none, none, none, none, some 55, none⟩), (3, ⟨none, none, none, none, none, none, some 56, none⟩), (80, ⟨some 57, none, some 58, none, none, none, none, none⟩), (81, ⟨none, some 59, none, none, none, none, none, none⟩), (82, ⟨some 60, none, none, none, none, none, none, none⟩), (83, ⟨none, none, some 61, none, none, none, none, none⟩), (84, ⟨none, none, none, none, none, none, some 62, none⟩), (85, ⟨some 63, some 64, some 61, none, none, none, none, none⟩), (86, ⟨none, none, some 65, some 61, none, none, none, none⟩), (87, ⟨none, none, none, none, none, none, some 61, some 66⟩)]
def tabT (k : Int) : Option RowV := match tabTL.lookup k with | some r => some r | none => tabE k
def tabTK : List Int := [1, 2, 3, 80, 81, 82, 83, 84, 85, 86, 87]
theorem tabT_not {k : Int} (h : k ∉ tabTK) : tabT k = tabE k := by
  have e : tabTL.lookup k = none := lookup_none (show k ∉ tabTL.map (·.1) from h)
  simp only [tabT, e]
set_option maxRecDepth 100000 in
set_option maxHeartbeats 4000000 in
theorem table_in (k : Int) (hk : k ∈ tabTK) (W : World) : Calls Tryz.prog 48 #[.int .i64 k] W (TabA (tabT k) W) := by
  simp only [tabTK, List.mem_cons, List.not_mem_nil, or_false] at hk
  rcases hk with rfl | rfl | rfl | rfl | rfl | rfl | rfl | rfl | rfl | rfl | rfl
  · go_enter Tryz.func48, Tryz.ntmps48
    go_wp2
    refine bodyPost_ret (v := .tuple #[.agg #[.nilFunc, .nilFunc, .nilFunc, .nilFunc, .nilFunc, .nilFunc, .nilFunc, .nilFunc], .bool true]) ?_ rfl ⟨rfl, (Below.refl _ W).alloc (Nat.le_refl _) _⟩
    simp [results, Tryz.results48, go_sem]
  · go_enter Tryz.func48, Tryz.ntmps48
    go_wp2
    refine bodyPost_ret (v := .tuple #[.agg #[.nilFunc, .nilFunc, .nilFunc, .nilFunc, .nilFunc, .nilFunc, .func (.func 55) #[] #[], .nilFunc], .bool true]) ?_ rfl ⟨rfl, (Below.refl _ W).alloc (Nat.le_refl _) _⟩
    simp [results, Tryz.results48, go_sem]
  · go_enter Tryz.func48, Tryz.ntmps48
    go_wp2
    refine bodyPost_ret (v := .tuple #[.agg #[.nilFunc, .nilFunc, .nilFunc, .nilFunc, .nilFunc, .nilFunc, .func (.func 56) #[] #[], .nilFunc], .bool true]) ?_ rfl ⟨rfl, (Below.refl _ W).alloc (Nat.le_refl _) _⟩
    simp [results, Tryz.results48, go_sem]
  · go_enter Tryz.func48, Tryz.ntmps48
    go_wp2
    refine bodyPost_ret (v := .tuple #[.agg #[.func (.func 57) #[] #[], .nilFunc, .func (.func 58) #[] #[], .nilFunc, .nilFunc, .nilFunc, .nilFunc, .nilFunc], .bool true]) ?_ rfl ⟨rfl, (Below.refl _ W).alloc (Nat.le_refl _) _⟩
    simp [results, Tryz.results48, go_sem]
  · go_enter Tryz.func48, Tryz.ntmps48
    go_wp2
    refine bodyPost_ret (v := .tuple #[.agg #[.nilFunc, .func (.func 59) #[] #[], .nilFunc, .nilFunc, .nilFunc, .nilFunc, .nilFunc, .nilFunc], .bool true]) ?_ rfl ⟨rfl, (Below.refl _ W).alloc (Nat.le_refl _) _⟩
    simp [results, Tryz.results48, go_sem]
  · go_enter Tryz.func48, Tryz.ntmps48
    go_wp2
    refine bodyPost_ret (v := .tuple #[.agg #[.func (.func 60) #[] #[], .nilFunc, .nilFunc, .nilFunc, .nilFunc, .nilFunc, .nilFunc, .nilFunc], .bool true]) ?_ rfl ⟨rfl, (Below.refl _ W).alloc (Nat.le_refl _) _⟩
    simp [results, Tryz.results48, go_sem]
  · go_enter Tryz.func48, Tryz.ntmps48
    go_wp2
    refine bodyPost_ret (v := .tuple #[.agg #[.nilFunc, .nilFunc, .func (.func 61) #[] #[], .nilFunc, .nilFunc, .nilFunc, .nilFunc, .nilFunc], .bool true]) ?_ rfl ⟨rfl, (Below.refl _ W).alloc (Nat.le_refl _) _⟩
    simp [results, Tryz.results48, go_sem]
  · go_enter Tryz.func48, Tryz.ntmps48
    go_wp2
    refine bodyPost_ret (v := .tuple #[.agg #[.nilFunc, .nilFunc, .nilFunc, .nilFunc, .nilFunc, .nilFunc, .func (.func 62) #[] #[], .nilFunc], .bool true]) ?_ rfl ⟨rfl, (Below.refl _ W).alloc (Nat.le_refl _) _⟩
    simp [results, Tryz.results48, go_sem]
  · go_enter Tryz.func48, Tryz.ntmps48
    go_wp2
    refine bodyPost_ret (v := .tuple #[.agg #[.func (.func 63) #[] #[], .func (.func 64) #[] #[], .func (.func 61) #[] #[], .nilFunc, .nilFunc, .nilFunc, .nilFunc, .nilFunc], .bool true]) ?_ rfl ⟨rfl, (Below.refl _ W).alloc (Nat.le_refl _) _⟩
    simp [results, Tryz.results48, go_sem]
  · go_enter Tryz.func48, Tryz.ntmps48
    go_wp2
    refine bodyPost_ret (v := .tuple #[.agg #[.nilFunc, .nilFunc, .func (.func 65) #[] #[], .func (.func 61) #[] #[], .nilFunc, .nilFunc, .nilFunc, .nilFunc], .bool true]) ?_ rfl ⟨rfl, (Below.refl _ W).alloc (Nat.le_refl _) _⟩
    simp [results, Tryz.results48, go_sem]
  · go_enter Tryz.func48, Tryz.ntmps48
    go_wp2
    refine bodyPost_ret (v := .tuple #[.agg #[.nilFunc, .nilFunc, .nilFunc, .nilFunc, .nilFunc, .nilFunc, .func (.func 61) #[] #[], .func (.func 66) #[] #[]], .bool true]) ?_ rfl ⟨rfl, (Below.refl _ W).alloc (Nat.le_refl _) _⟩
    simp [results, Tryz.results48, go_sem]
set_option maxRecDepth 100000 in
set_option maxHeartbeats 4000000 in
theorem table_out (k : Int) (hk : k ∉ tabTK) (W : World) : Calls Tryz.prog 48 #[.int .i64 k] W (TabA (tabT k) W) := by
  rw [tabT_not hk]
  have q0 : (k == 1) = false := by simp only [beq_eq_false_iff_ne, ne_eq]; intro e; subst e; exact absurd hk (by decide)
  have q1 : (k == 2) = false := by simp only [beq_eq_false_iff_ne, ne_eq]; intro e; subst e; exact absurd hk (by decide)
  have q2 : (k == 3) = false := by simp only [beq_eq_false_iff_ne, ne_eq]; intro e; subst e; exact absurd hk (by decide)
  have q3 : (k == 80) = false := by simp only [beq_eq_false_iff_ne, ne_eq]; intro e; subst e; exact absurd hk (by decide)
  have q4 : (k == 81) = false := by simp only [beq_eq_false_iff_ne, ne_eq]; intro e; subst e; exact absurd hk (by decide)
  have q5 : (k == 82) = false := by simp only [beq_eq_false_iff_ne, ne_eq]; intro e; subst e; exact absurd hk (by decide)
  have q6 : (k == 83) = false := by simp only [beq_eq_false_iff_ne, ne_eq]; intro e; subst e; exact absurd hk (by decide)
  have q7 : (k == 84) = false := by simp only [beq_eq_false_iff_ne, ne_eq]; intro e; subst e; exact absurd hk (by decide)
  have q8 : (k == 85) = false := by simp only [beq_eq_false_iff_ne, ne_eq]; intro e; subst e; exact absurd hk (by decide)
  have q9 : (k == 86) = false := by simp only [beq_eq_false_iff_ne, ne_eq]; intro e; subst e; exact absurd hk (by decide)
  have q10 : (k == 87) = false := by simp only [beq_eq_false_iff_ne, ne_eq]; intro e; subst e; exact absurd hk (by decide)
  clear hk
  obtain ⟨r0, r1, r2, r3, r4, r5, r6, r7, b, hf⟩ := tabA_form (tabE k)
  have HC : Hid (∀ W, Calls Tryz.prog 67 #[.int .i64 k] W fun e w' => e = .returned (.tuple #[.agg #[fv r0, fv r1, fv r2, fv r3, fv r4, fv r5, fv r6, fv r7], .bool b]) ∧ Below W.heap.size W w') := fun W => (exprTable_any k W).mono fun e w' h => (hf W e w').1 h
  refine Calls.mono (?_ : Calls Tryz.prog 48 #[.int .i64 k] W fun e w' => e = .returned (.tuple #[.agg #[fv r0, fv r1, fv r2, fv r3, fv r4, fv r5, fv r6, fv r7], .bool b]) ∧ Below W.heap.size W w') fun e w' h => (hf W e w').2 h
  clear hf
  go_enter Tryz.func48, Tryz.ntmps48
  go_wp2_with (go_at_call 67; refine (unhide HC _).mono ?_; rintro e w2 ⟨rfl, hB⟩; have hr2 := (hB.block W.heap.size (by simp)).trans (World.alloc_heap_new W _); obtain ⟨c0, c1, c2, c3, c4, c5, c6, c7⟩ := cells8 hr2; obtain ⟨f0, f1, f2, f3, f4, f5, f6, f7⟩ := frozen8 hr2; have hl2 : W.heap.size < w2.heap.size := Nat.lt_of_lt_of_le (by simp) hB.size; have HR2 := hide hr2; clear hr2)
  have hrf := put8_heap (unhide HR2) (fv r0) (fv r1) (fv r2) (fv r3) (fv r4) (fv r5) (fv r6) (fv r7)
  obtain ⟨g0, g1, g2, g3, g4, g5, g6, g7⟩ := cells8 hrf
  refine bodyPost_ret (v := .tuple #[.agg #[fv r0, fv r1, fv r2, fv r3, fv r4, fv r5, fv r6, fv r7], .bool b]) ?_ rfl ⟨rfl, ((Below.refl _ W).alloc (Nat.le_refl _) _).trans ((hB.mono (by simp)).trans (put8_below (Nat.le_refl _) _ _ _ _ _ _ _ _))⟩
  simp [results, Tryz.results48, go_sem, g0, g1, g2, g3, g4, g5, g6, g7]
theorem table_any (k : Int) (W : World) : Calls Tryz.prog 48 #[.int .i64 k] W (TabA (tabT k) W) := by
  by_cases hk : k ∈ tabTK
  · exact table_in k hk W
  · exact table_out k hk W

end Go.Proofs.YtoffpbaddehncaaGreatDoor

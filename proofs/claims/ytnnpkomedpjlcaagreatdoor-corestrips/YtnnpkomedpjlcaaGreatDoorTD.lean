/- The table of kinds, its part exprTable. -/
import Derived.Laws.EntriesVeiled
import Derived.Test.YtnnpkomedpjlcaaGreatDoorTC
namespace Go.Proofs.YtnnpkomedpjlcaaGreatDoor
set_option linter.unusedSimpArgs false
set_option linter.unusedVariables false
open Go.RowKit
attribute [local go_sem] run_store_fv

def tabEL : List (Int × RowV) := [(10, ⟨none, some 91, none, none, none, none, none, none⟩), (11, ⟨some 64, none, none, none, none, none, none, none⟩), (12, ⟨none, none, none, none, none, none, some 92, some 93⟩), (13, ⟨none, none, none, none, none, none, none, none⟩), (14, ⟨none, none, none, none, none, none, none, none⟩), (15, ⟨none, none, none, none, none, none, none, none⟩), (16, ⟨none, none, none, none, none, none, none, none⟩), (18, ⟨none, none, none, none, none, none, none, none⟩), (17, ⟨some 67, none, none, none, none, none, none, none⟩), (32, ⟨some 67, none, none, none, none, none, none, none⟩), (19, ⟨none, none, none, none, none, none, some 92, none⟩), (20, ⟨none, none, none, none, none, none, some 94, none⟩), (21, ⟨some 67, none, some 92, none, none, none, none, none⟩), (29, ⟨some 67, none, some 92, none, none, none, none, none⟩), (22, ⟨none, none, some 95, some 69, some 96, none, none, none⟩), (23, ⟨some 97, none, some 92, none, none, none, none, none⟩), (24, ⟨some 98, none, some 92, some 92, none, none, none, none⟩), (25, ⟨none, none, some 92, some 92, some 92, none, none, none⟩), (26, ⟨some 99, none, some 100, some 92, none, none, none, none⟩), (27, ⟨none, none, some 92, some 62, some 101, none, none, none⟩), (28, ⟨none, none, some 102, some 62, some 101, none, none, none⟩), (30, ⟨none, none, some 92, some 92, none, none, none, none⟩), (31, ⟨none, none, some 101, none, none, none, none, none⟩), (33, ⟨none, none, some 92, some 65, none, none, none, none⟩), (34, ⟨none, none, some 92, none, none, none, none, none⟩)]
def tabE (k : Int) : Option RowV := match tabEL.lookup k with | some r => some r | none => tabS k
def tabEK : List Int := [10, 11, 12, 13, 14, 15, 16, 18, 17, 32, 19, 20, 21, 29, 22, 23, 24, 25, 26, 27, 28, 30, 31, 33, 34]
theorem tabE_not {k : Int} (h : k ∉ tabEK) : tabE k = tabS k := by
  have e : tabEL.lookup k = none := lookup_none (show k ∉ tabEL.map (·.1) from h)
  simp only [tabE, e]
set_option maxRecDepth 100000 in
set_option maxHeartbeats 4000000 in
theorem exprTable_in (k : Int) (hk : k ∈ tabEK) (W : World) : Calls Tryz.prog 71 #[.int .i64 k] W (TabA (tabE k) W) := by
  simp only [tabEK, List.mem_cons, List.not_mem_nil, or_false] at hk
  rcases hk with rfl | rfl | rfl | rfl | rfl | rfl | rfl | rfl | rfl | rfl | rfl | rfl | rfl | rfl | rfl | rfl | rfl | rfl | rfl | rfl | rfl | rfl | rfl | rfl | rfl
  · go_enter Tryz.func71, Tryz.ntmps71
    go_wp2
    refine bodyPost_ret (v := .tuple #[.agg #[.nilFunc, .func (.func 91) #[] #[], .nilFunc, .nilFunc, .nilFunc, .nilFunc, .nilFunc, .nilFunc], .bool true]) ?_ rfl ⟨rfl, (Below.refl _ W).alloc (Nat.le_refl _) _⟩
    simp [results, Tryz.results71, go_sem]
  · go_enter Tryz.func71, Tryz.ntmps71
    go_wp2
    refine bodyPost_ret (v := .tuple #[.agg #[.func (.func 64) #[] #[], .nilFunc, .nilFunc, .nilFunc, .nilFunc, .nilFunc, .nilFunc, .nilFunc], .bool true]) ?_ rfl ⟨rfl, (Below.refl _ W).alloc (Nat.le_refl _) _⟩
    simp [results, Tryz.results71, go_sem]
  · go_enter Tryz.func71, Tryz.ntmps71
    go_wp2
    refine bodyPost_ret (v := .tuple #[.agg #[.nilFunc, .nilFunc, .nilFunc, .nilFunc, .nilFunc, .nilFunc, .func (.func 92) #[] #[], .func (.func 93) #[] #[]], .bool true]) ?_ rfl ⟨rfl, (Below.refl _ W).alloc (Nat.le_refl _) _⟩
    simp [results, Tryz.results71, go_sem]
  · go_enter Tryz.func71, Tryz.ntmps71
    go_wp2
    refine bodyPost_ret (v := .tuple #[.agg #[.nilFunc, .nilFunc, .nilFunc, .nilFunc, .nilFunc, .nilFunc, .nilFunc, .nilFunc], .bool true]) ?_ rfl ⟨rfl, (Below.refl _ W).alloc (Nat.le_refl _) _⟩
    simp [results, Tryz.results71, go_sem]
  · go_enter Tryz.func71, Tryz.ntmps71
    go_wp2
    refine bodyPost_ret (v := .tuple #[.agg #[.nilFunc, .nilFunc, .nilFunc, .nilFunc, .nilFunc, .nilFunc, .nilFunc, .nilFunc], .bool true]) ?_ rfl ⟨rfl, (Below.refl _ W).alloc (Nat.le_refl _) _⟩
    simp [results, Tryz.results71, go_sem]
  · go_enter Tryz.func71, Tryz.ntmps71
    go_wp2
    refine bodyPost_ret (v := .tuple #[.agg #[.nilFunc, .nilFunc, .nilFunc, .nilFunc, .nilFunc, .nilFunc, .nilFunc, .nilFunc], .bool true]) ?_ rfl ⟨rfl, (Below.refl _ W).alloc (Nat.le_refl _) _⟩
    simp [results, Tryz.results71, go_sem]
  · go_enter Tryz.func71, Tryz.ntmps71
    go_wp2
    refine bodyPost_ret (v := .tuple #[.agg #[.nilFunc, .nilFunc, .nilFunc, .nilFunc, .nilFunc, .nilFunc, .nilFunc, .nilFunc], .bool true]) ?_ rfl ⟨rfl, (Below.refl _ W).alloc (Nat.le_refl _) _⟩
    simp [results, Tryz.results71, go_sem]
  · go_enter Tryz.func71, Tryz.ntmps71
    go_wp2
    refine bodyPost_ret (v := .tuple #[.agg #[.nilFunc, .nilFunc, .nilFunc, .nilFunc, .nilFunc, .nilFunc, .nilFunc, .nilFunc], .bool true]) ?_ rfl ⟨rfl, (Below.refl _ W).alloc (Nat.le_refl _) _⟩
    simp [results, Tryz.results71, go_sem]
  · go_enter Tryz.func71, Tryz.ntmps71
    go_wp2
    refine bodyPost_ret (v := .tuple #[.agg #[.func (.func 67) #[] #[], .nilFunc, .nilFunc, .nilFunc, .nilFunc, .nilFunc, .nilFunc, .nilFunc], .bool true]) ?_ rfl ⟨rfl, (Below.refl _ W).alloc (Nat.le_refl _) _⟩
    simp [results, Tryz.results71, go_sem]
  · go_enter Tryz.func71, Tryz.ntmps71
    go_wp2
    refine bodyPost_ret (v := .tuple #[.agg #[.func (.func 67) #[] #[], .nilFunc, .nilFunc, .nilFunc, .nilFunc, .nilFunc, .nilFunc, .nilFunc], .bool true]) ?_ rfl ⟨rfl, (Below.refl _ W).alloc (Nat.le_refl _) _⟩
    simp [results, Tryz.results71, go_sem]
  · go_enter Tryz.func71, Tryz.ntmps71
    go_wp2
    refine bodyPost_ret (v := .tuple #[.agg #[.nilFunc, .nilFunc, .nilFunc, .nilFunc, .nilFunc, .nilFunc, .func (.func 92) #[] #[], .nilFunc], .bool true]) ?_ rfl ⟨rfl, (Below.refl _ W).alloc (Nat.le_refl _) _⟩
    simp [results, Tryz.results71, go_sem]
  · go_enter Tryz.func71, Tryz.ntmps71
    go_wp2
    refine bodyPost_ret (v := .tuple #[.agg #[.nilFunc, .nilFunc, .nilFunc, .nilFunc, .nilFunc, .nilFunc, .func (.func 94) #[] #[], .nilFunc], .bool true]) ?_ rfl ⟨rfl, (Below.refl _ W).alloc (Nat.le_refl _) _⟩
    simp [results, Tryz.results71, go_sem]
  · go_enter Tryz.func71, Tryz.ntmps71
    go_wp2
    refine bodyPost_ret (v := .tuple #[.agg #[.func (.func 67) #[] #[], .nilFunc, .func (.func 92) #[] #[], .nilFunc, .nilFunc, .nilFunc, .nilFunc, .nilFunc], .bool true]) ?_ rfl ⟨rfl, (Below.refl _ W).alloc (Nat.le_refl _) _⟩
    simp [results, Tryz.results71, go_sem]
  · go_enter Tryz.func71, Tryz.ntmps71
    go_wp2
    refine bodyPost_ret (v := .tuple #[.agg #[.func (.func 67) #[] #[], .nilFunc, .func (.func 92) #[] #[], .nilFunc, .nilFunc, .nilFunc, .nilFunc, .nilFunc], .bool true]) ?_ rfl ⟨rfl, (Below.refl _ W).alloc (Nat.le_refl _) _⟩
    simp [results, Tryz.results71, go_sem]
  · go_enter Tryz.func71, Tryz.ntmps71
    go_wp2
    refine bodyPost_ret (v := .tuple #[.agg #[.nilFunc, .nilFunc, .func (.func 95) #[] #[], .func (.func 69) #[] #[], .func (.func 96) #[] #[], .nilFunc, .nilFunc, .nilFunc], .bool true]) ?_ rfl ⟨rfl, (Below.refl _ W).alloc (Nat.le_refl _) _⟩
    simp [results, Tryz.results71, go_sem]
  · go_enter Tryz.func71, Tryz.ntmps71
    go_wp2
    refine bodyPost_ret (v := .tuple #[.agg #[.func (.func 97) #[] #[], .nilFunc, .func (.func 92) #[] #[], .nilFunc, .nilFunc, .nilFunc, .nilFunc, .nilFunc], .bool true]) ?_ rfl ⟨rfl, (Below.refl _ W).alloc (Nat.le_refl _) _⟩
    simp [results, Tryz.results71, go_sem]
  · go_enter Tryz.func71, Tryz.ntmps71
    go_wp2
    refine bodyPost_ret (v := .tuple #[.agg #[.func (.func 98) #[] #[], .nilFunc, .func (.func 92) #[] #[], .func (.func 92) #[] #[], .nilFunc, .nilFunc, .nilFunc, .nilFunc], .bool true]) ?_ rfl ⟨rfl, (Below.refl _ W).alloc (Nat.le_refl _) _⟩
    simp [results, Tryz.results71, go_sem]
  · go_enter Tryz.func71, Tryz.ntmps71
    go_wp2
    refine bodyPost_ret (v := .tuple #[.agg #[.nilFunc, .nilFunc, .func (.func 92) #[] #[], .func (.func 92) #[] #[], .func (.func 92) #[] #[], .nilFunc, .nilFunc, .nilFunc], .bool true]) ?_ rfl ⟨rfl, (Below.refl _ W).alloc (Nat.le_refl _) _⟩
    simp [results, Tryz.results71, go_sem]
  · go_enter Tryz.func71, Tryz.ntmps71
    go_wp2
    refine bodyPost_ret (v := .tuple #[.agg #[.func (.func 99) #[] #[], .nilFunc, .func (.func 100) #[] #[], .func (.func 92) #[] #[], .nilFunc, .nilFunc, .nilFunc, .nilFunc], .bool true]) ?_ rfl ⟨rfl, (Below.refl _ W).alloc (Nat.le_refl _) _⟩
    simp [results, Tryz.results71, go_sem]
  · go_enter Tryz.func71, Tryz.ntmps71
    go_wp2
    refine bodyPost_ret (v := .tuple #[.agg #[.nilFunc, .nilFunc, .func (.func 92) #[] #[], .func (.func 62) #[] #[], .func (.func 101) #[] #[], .nilFunc, .nilFunc, .nilFunc], .bool true]) ?_ rfl ⟨rfl, (Below.refl _ W).alloc (Nat.le_refl _) _⟩
    simp [results, Tryz.results71, go_sem]
  · go_enter Tryz.func71, Tryz.ntmps71
    go_wp2
    refine bodyPost_ret (v := .tuple #[.agg #[.nilFunc, .nilFunc, .func (.func 102) #[] #[], .func (.func 62) #[] #[], .func (.func 101) #[] #[], .nilFunc, .nilFunc, .nilFunc], .bool true]) ?_ rfl ⟨rfl, (Below.refl _ W).alloc (Nat.le_refl _) _⟩
    simp [results, Tryz.results71, go_sem]
  · go_enter Tryz.func71, Tryz.ntmps71
    go_wp2
    refine bodyPost_ret (v := .tuple #[.agg #[.nilFunc, .nilFunc, .func (.func 92) #[] #[], .func (.func 92) #[] #[], .nilFunc, .nilFunc, .nilFunc, .nilFunc], .bool true]) ?_ rfl ⟨rfl, (Below.refl _ W).alloc (Nat.le_refl _) _⟩
    simp [results, Tryz.results71, go_sem]
  · go_enter Tryz.func71, Tryz.ntmps71
    go_wp2
    refine bodyPost_ret (v := .tuple #[.agg #[.nilFunc, .nilFunc, .func (.func 101) #[] #[], .nilFunc, .nilFunc, .nilFunc, .nilFunc, .nilFunc], .bool true]) ?_ rfl ⟨rfl, (Below.refl _ W).alloc (Nat.le_refl _) _⟩
    simp [results, Tryz.results71, go_sem]
  · go_enter Tryz.func71, Tryz.ntmps71
    go_wp2
    refine bodyPost_ret (v := .tuple #[.agg #[.nilFunc, .nilFunc, .func (.func 92) #[] #[], .func (.func 65) #[] #[], .nilFunc, .nilFunc, .nilFunc, .nilFunc], .bool true]) ?_ rfl ⟨rfl, (Below.refl _ W).alloc (Nat.le_refl _) _⟩
    simp [results, Tryz.results71, go_sem]
  · go_enter Tryz.func71, Tryz.ntmps71
    go_wp2
    refine bodyPost_ret (v := .tuple #[.agg #[.nilFunc, .nilFunc, .func (.func 92) #[] #[], .nilFunc, .nilFunc, .nilFunc, .nilFunc, .nilFunc], .bool true]) ?_ rfl ⟨rfl, (Below.refl _ W).alloc (Nat.le_refl _) _⟩
    simp [results, Tryz.results71, go_sem]
set_option maxRecDepth 100000 in
set_option maxHeartbeats 4000000 in
theorem exprTable_out (k : Int) (hk : k ∉ tabEK) (W : World) : Calls Tryz.prog 71 #[.int .i64 k] W (TabA (tabE k) W) := by
  rw [tabE_not hk]
  have q0 : (k == 10) = false := by simp only [beq_eq_false_iff_ne, ne_eq]; intro e; subst e; exact absurd hk (by decide)
  have q1 : (k == 11) = false := by simp only [beq_eq_false_iff_ne, ne_eq]; intro e; subst e; exact absurd hk (by decide)
  have q2 : (k == 12) = false := by simp only [beq_eq_false_iff_ne, ne_eq]; intro e; subst e; exact absurd hk (by decide)
  have q3 : (k == 13) = false := by simp only [beq_eq_false_iff_ne, ne_eq]; intro e; subst e; exact absurd hk (by decide)
  have q4 : (k == 14) = false := by simp only [beq_eq_false_iff_ne, ne_eq]; intro e; subst e; exact absurd hk (by decide)
  have q5 : (k == 15) = false := by simp only [beq_eq_false_iff_ne, ne_eq]; intro e; subst e; exact absurd hk (by decide)
  have q6 : (k == 16) = false := by simp only [beq_eq_false_iff_ne, ne_eq]; intro e; subst e; exact absurd hk (by decide)
  have q7 : (k == 18) = false := by simp only [beq_eq_false_iff_ne, ne_eq]; intro e; subst e; exact absurd hk (by decide)
  have q8 : (k == 17) = false := by simp only [beq_eq_false_iff_ne, ne_eq]; intro e; subst e; exact absurd hk (by decide)
  have q9 : (k == 32) = false := by simp only [beq_eq_false_iff_ne, ne_eq]; intro e; subst e; exact absurd hk (by decide)
  have q10 : (k == 19) = false := by simp only [beq_eq_false_iff_ne, ne_eq]; intro e; subst e; exact absurd hk (by decide)
  have q11 : (k == 20) = false := by simp only [beq_eq_false_iff_ne, ne_eq]; intro e; subst e; exact absurd hk (by decide)
  have q12 : (k == 21) = false := by simp only [beq_eq_false_iff_ne, ne_eq]; intro e; subst e; exact absurd hk (by decide)
  have q13 : (k == 29) = false := by simp only [beq_eq_false_iff_ne, ne_eq]; intro e; subst e; exact absurd hk (by decide)
  have q14 : (k == 22) = false := by simp only [beq_eq_false_iff_ne, ne_eq]; intro e; subst e; exact absurd hk (by decide)
  have q15 : (k == 23) = false := by simp only [beq_eq_false_iff_ne, ne_eq]; intro e; subst e; exact absurd hk (by decide)
  have q16 : (k == 24) = false := by simp only [beq_eq_false_iff_ne, ne_eq]; intro e; subst e; exact absurd hk (by decide)
  have q17 : (k == 25) = false := by simp only [beq_eq_false_iff_ne, ne_eq]; intro e; subst e; exact absurd hk (by decide)
  have q18 : (k == 26) = false := by simp only [beq_eq_false_iff_ne, ne_eq]; intro e; subst e; exact absurd hk (by decide)
  have q19 : (k == 27) = false := by simp only [beq_eq_false_iff_ne, ne_eq]; intro e; subst e; exact absurd hk (by decide)
  have q20 : (k == 28) = false := by simp only [beq_eq_false_iff_ne, ne_eq]; intro e; subst e; exact absurd hk (by decide)
  have q21 : (k == 30) = false := by simp only [beq_eq_false_iff_ne, ne_eq]; intro e; subst e; exact absurd hk (by decide)
  have q22 : (k == 31) = false := by simp only [beq_eq_false_iff_ne, ne_eq]; intro e; subst e; exact absurd hk (by decide)
  have q23 : (k == 33) = false := by simp only [beq_eq_false_iff_ne, ne_eq]; intro e; subst e; exact absurd hk (by decide)
  have q24 : (k == 34) = false := by simp only [beq_eq_false_iff_ne, ne_eq]; intro e; subst e; exact absurd hk (by decide)
  clear hk
  obtain ⟨r0, r1, r2, r3, r4, r5, r6, r7, b, hf⟩ := tabA_form (tabS k)
  have HC : Hid (∀ W, Calls Tryz.prog 103 #[.int .i64 k] W fun e w' => e = .returned (.tuple #[.agg #[fv r0, fv r1, fv r2, fv r3, fv r4, fv r5, fv r6, fv r7], .bool b]) ∧ Below W.heap.size W w') := fun W => (stmtTable_any k W).mono fun e w' h => (hf W e w').1 h
  refine Calls.mono (?_ : Calls Tryz.prog 71 #[.int .i64 k] W fun e w' => e = .returned (.tuple #[.agg #[fv r0, fv r1, fv r2, fv r3, fv r4, fv r5, fv r6, fv r7], .bool b]) ∧ Below W.heap.size W w') fun e w' h => (hf W e w').2 h
  clear hf
  go_enter Tryz.func71, Tryz.ntmps71
  go_wp2_with (go_at_call 103; refine (unhide HC _).mono ?_; rintro e w2 ⟨rfl, hB⟩; have hr2 := (hB.block W.heap.size (by simp)).trans (World.alloc_heap_new W _); obtain ⟨c0, c1, c2, c3, c4, c5, c6, c7⟩ := cells8 hr2; obtain ⟨f0, f1, f2, f3, f4, f5, f6, f7⟩ := frozen8 hr2; have hl2 : W.heap.size < w2.heap.size := Nat.lt_of_lt_of_le (by simp) hB.size; have HR2 := hide hr2; clear hr2)
  have hrf := put8_heap (unhide HR2) (fv r0) (fv r1) (fv r2) (fv r3) (fv r4) (fv r5) (fv r6) (fv r7)
  obtain ⟨g0, g1, g2, g3, g4, g5, g6, g7⟩ := cells8 hrf
  refine bodyPost_ret (v := .tuple #[.agg #[fv r0, fv r1, fv r2, fv r3, fv r4, fv r5, fv r6, fv r7], .bool b]) ?_ rfl ⟨rfl, ((Below.refl _ W).alloc (Nat.le_refl _) _).trans ((hB.mono (by simp)).trans (put8_below (Nat.le_refl _) _ _ _ _ _ _ _ _))⟩
  simp [results, Tryz.results71, go_sem, g0, g1, g2, g3, g4, g5, g6, g7]
theorem exprTable_any (k : Int) (W : World) : Calls Tryz.prog 71 #[.int .i64 k] W (TabA (tabE k) W) := by
  by_cases hk : k ∈ tabEK
  · exact exprTable_in k hk W
  · exact exprTable_out k hk W

end Go.Proofs.YtnnpkomedpjlcaaGreatDoor

/- The reference's small functions over a node: is, Kid, each, list, row, named, exported; where its functions begin; a region that lays a row. -/
import Derived.BigQuiet
import Derived.Deep.Quiet
import Derived.Deep.RegionHeld3
import Derived.Deep.RegionWith
import Derived.LoopN
import Derived.OrdersHeld
import Derived.RangeFuncRecord
import Derived.Test.YtnnpkomedpjlcaaGreatDoorT1
import Derived.Test.YtnnpkomedpjlcaaGreatDoorT6
import Derived.Test.YtnnpkomedpjlcaaGreatDoorTH
/- Blocks that were just laid. -/
namespace Go.Proofs.YtnnpkomedpjlcaaGreatDoor
set_option linter.unusedSimpArgs false
set_option linter.unusedVariables false
open Go.RowKit
theorem rcells5 {W : World} {R : Nat} {x0 x1 x2 x3 x4 : Value} (h : W.heap[R]? = some (.cells #[x0, x1, x2, x3, x4] 41)) : W.cell? ⟨R, 0, none⟩ = some x0 ∧ W.cell? ⟨R, 1, none⟩ = some x1 ∧ W.cell? ⟨R, 2, none⟩ = some x2 ∧ W.cell? ⟨R, 3, none⟩ = some x3 ∧ W.cell? ⟨R, 4, none⟩ = some x4 := by
  refine ⟨?_, ?_, ?_, ?_, ?_⟩ <;> rw [Lib.cell_of_heap h] <;> rfl
theorem rfrozen_at {W : World} {B : Nat} {C : Array Value} {t : TypeId} (h : W.heap[B]? = some (.cells C t (0, 0))) (j : Nat) : W.frozen? ⟨B, j, none⟩ = false := by simp [World.frozen?, h]
theorem rat_a1 (w : World) (x : Obj) : (w.alloc x).heap[w.heap.size]? = some x := World.alloc_heap_new w x
theorem rat_a2 (w : World) (x y : Obj) : ((w.alloc x).alloc y).heap[w.heap.size]? = some x := (Below.heap_alloc _ _ _ (by simp)).trans (World.alloc_heap_new w x)
theorem rat_a3 (w : World) (x y : Obj) : ((w.alloc x).alloc y).heap[w.heap.size + 1]? = some y := by
  have := World.alloc_heap_new (w.alloc x) y
  rw [World.size_alloc] at this
  exact this
/-- The box at the head. -/
theorem rbox_at {W w : World} {v : Value} (h : Below (W.heap.size + 1) (W.alloc (.cells #[v] 24)) w) :
    Below W.heap.size W w ∧ w.cell? ⟨W.heap.size, 0, none⟩ = some v ∧ W.heap.size < w.heap.size := by
  refine ⟨((Below.refl _ W).alloc (Nat.le_refl _) _).trans (h.mono (by omega)), ?_, by have := h.size; simp at this; omega⟩
  rw [Lib.cell_of_heap ((h.block W.heap.size (by omega)).trans (rat_a1 W _))]; rfl
end Go.Proofs.YtnnpkomedpjlcaaGreatDoor

/- The reference's kinds: expressions, types, statements. -/
namespace Go.Proofs.YtnnpkomedpjlcaaGreatDoor
set_option linter.unusedSimpArgs false
set_option linter.unusedVariables false
open Go.RowKit

set_option maxRecDepth 100000 in
set_option maxHeartbeats 2000000 in
theorem rStmt_any (k : Int) (W : World) : Calls Tryz.prog 156 #[.int .i64 k] W fun e w' => e = .returned (.bool (isS k)) ∧ w' = W := by
  cases h : isS k with
  | true =>
    have h' : k ∈ stmtK := by simpa [isS] using h
    simp only [stmtK, List.mem_cons, List.not_mem_nil, or_false] at h'
    clear h
    rcases h' with rfl | rfl | rfl | rfl | rfl | rfl | rfl | rfl | rfl | rfl | rfl | rfl | rfl | rfl | rfl | rfl | rfl | rfl | rfl
    all_goals (
      go_enter Tryz.func156, Tryz.ntmps156
      go_wp2
      go_ret
      exact ⟨rfl, rfl⟩)
  | false =>
    have q0 : (k == 40) = false := by simp only [beq_eq_false_iff_ne, ne_eq]; intro e; subst e; exact absurd h (by decide)
    have q1 : (k == 41) = false := by simp only [beq_eq_false_iff_ne, ne_eq]; intro e; subst e; exact absurd h (by decide)
    have q2 : (k == 42) = false := by simp only [beq_eq_false_iff_ne, ne_eq]; intro e; subst e; exact absurd h (by decide)
    have q3 : (k == 47) = false := by simp only [beq_eq_false_iff_ne, ne_eq]; intro e; subst e; exact absurd h (by decide)
    have q4 : (k == 49) = false := by simp only [beq_eq_false_iff_ne, ne_eq]; intro e; subst e; exact absurd h (by decide)
    have q5 : (k == 51) = false := by simp only [beq_eq_false_iff_ne, ne_eq]; intro e; subst e; exact absurd h (by decide)
    have q6 : (k == 52) = false := by simp only [beq_eq_false_iff_ne, ne_eq]; intro e; subst e; exact absurd h (by decide)
    have q7 : (k == 53) = false := by simp only [beq_eq_false_iff_ne, ne_eq]; intro e; subst e; exact absurd h (by decide)
    have q8 : (k == 54) = false := by simp only [beq_eq_false_iff_ne, ne_eq]; intro e; subst e; exact absurd h (by decide)
    have q9 : (k == 55) = false := by simp only [beq_eq_false_iff_ne, ne_eq]; intro e; subst e; exact absurd h (by decide)
    have q10 : (k == 56) = false := by simp only [beq_eq_false_iff_ne, ne_eq]; intro e; subst e; exact absurd h (by decide)
    have q11 : (k == 57) = false := by simp only [beq_eq_false_iff_ne, ne_eq]; intro e; subst e; exact absurd h (by decide)
    have q12 : (k == 58) = false := by simp only [beq_eq_false_iff_ne, ne_eq]; intro e; subst e; exact absurd h (by decide)
    have q13 : (k == 59) = false := by simp only [beq_eq_false_iff_ne, ne_eq]; intro e; subst e; exact absurd h (by decide)
    have q14 : (k == 60) = false := by simp only [beq_eq_false_iff_ne, ne_eq]; intro e; subst e; exact absurd h (by decide)
    have q15 : (k == 61) = false := by simp only [beq_eq_false_iff_ne, ne_eq]; intro e; subst e; exact absurd h (by decide)
    have q16 : (k == 63) = false := by simp only [beq_eq_false_iff_ne, ne_eq]; intro e; subst e; exact absurd h (by decide)
    have q17 : (k == 64) = false := by simp only [beq_eq_false_iff_ne, ne_eq]; intro e; subst e; exact absurd h (by decide)
    have q18 : (k == 65) = false := by simp only [beq_eq_false_iff_ne, ne_eq]; intro e; subst e; exact absurd h (by decide)
    clear h
    go_enter Tryz.func156, Tryz.ntmps156
    go_wp2
    go_ret
    exact ⟨rfl, rfl⟩

set_option maxRecDepth 100000 in
set_option maxHeartbeats 1000000 in
theorem rExpr_any (k : Int) (W : World) : Calls Tryz.prog 28 #[.int .i64 k] W fun e w' => e = .returned (.bool (isE k)) ∧ w' = W := by
  by_cases h1 : 10 ≤ k
  · by_cases h2 : k ≤ 34
    · by_cases h3 : k = 21
      · subst h3
        go_enter Tryz.func28, Tryz.ntmps28
        go_wp2
        go_ret
        exact ⟨rfl, rfl⟩
      · have a1 : decide (10 ≤ k) = true := by simpa using h1
        have a2 : decide (k ≤ 34) = true := by simpa using h2
        have a3 : (k == 21) = false := by simpa using h3
        have HR : Hid (isE k = true) := by show isE k = true; simp [isE, a1, a2, a3, h1, h2, h3]
        have H3 := hide h3
        clear h3
        go_enter Tryz.func28, Tryz.ntmps28
        go_wp2
        go_ret
        rw [unhide HR]
        have h3 := unhide H3
        exact ⟨show Ending.returned (.bool (k != 21)) = _ from ret_b (by simpa using h3), rfl⟩
    · have a2 : decide (k ≤ 34) = false := by simpa using h2
      have HR : Hid (isE k = false) := by show isE k = false; simp [isE]; omega
      go_enter Tryz.func28, Tryz.ntmps28
      go_wp2
      go_ret
      rw [unhide HR]
      exact ⟨rfl, rfl⟩
  · have a2 : decide (10 ≤ k) = false := by simpa using h1
    have HR : Hid (isE k = false) := by show isE k = false; simp [isE]; omega
    go_enter Tryz.func28, Tryz.ntmps28
    go_wp2
    go_ret
    rw [unhide HR]
    exact ⟨rfl, rfl⟩

set_option maxRecDepth 100000 in
set_option maxHeartbeats 1000000 in
theorem rType_any (k : Int) (W : World) : Calls Tryz.prog 155 #[.int .i64 k] W fun e w' => e = .returned (.bool (isT k)) ∧ w' = W := by
  by_cases h1 : 80 ≤ k
  · by_cases h2 : k ≤ 87
    · by_cases h3 : k = 85
      · subst h3
        go_enter Tryz.func155, Tryz.ntmps155
        go_wp2
        go_ret
        exact ⟨rfl, rfl⟩
      · have a1 : decide (80 ≤ k) = true := by simpa using h1
        have a2 : decide (k ≤ 87) = true := by simpa using h2
        have a3 : (k == 85) = false := by simpa using h3
        have HR : Hid (isT k = true) := by show isT k = true; simp [isT, a1, a2, a3, h1, h2, h3]
        have H3 := hide h3
        clear h3
        go_enter Tryz.func155, Tryz.ntmps155
        go_wp2
        go_ret
        rw [unhide HR]
        have h3 := unhide H3
        exact ⟨show Ending.returned (.bool (k != 85)) = _ from ret_b (by simpa using h3), rfl⟩
    · have a2 : decide (k ≤ 87) = false := by simpa using h2
      have HR : Hid (isT k = false) := by show isT k = false; simp [isT]; omega
      go_enter Tryz.func155, Tryz.ntmps155
      go_wp2
      go_ret
      rw [unhide HR]
      exact ⟨rfl, rfl⟩
  · have a2 : decide (80 ≤ k) = false := by simpa using h1
    have HR : Hid (isT k = false) := by show isT k = false; simp [isT]; omega
    go_enter Tryz.func155, Tryz.ntmps155
    go_wp2
    go_ret
    rw [unhide HR]
    exact ⟨rfl, rfl⟩
end Go.Proofs.YtnnpkomedpjlcaaGreatDoor

/- The reference's is: may a node stand there? -/
namespace Go.Proofs.YtnnpkomedpjlcaaGreatDoor
set_option linter.unusedSimpArgs false
set_option linter.unusedVariables false
open Go.RowKit

/-- May a node of that kind and Num stand at a place? -/
def isW (which kd nm : Int) : Bool :=
  if which = 1000 then isE kd else if which = 1001 then isT kd else if which = 1002 then isS kd else if which = 1003 then kd == 66 && zo nm else if which = 1004 then kd == 66 else if which = 1005 then kd == 44 || kd == 45 || kd == 46 else kd == which
def ndV (x : Nd) (a : Option Addr) (c : Nat) : Value := .agg #[.int .i64 x.kind, .string x.text, .int .i64 x.num, .slice a x.kids.length c, .int .i64 x.at']

set_option maxRecDepth 100000 in
set_option maxHeartbeats 2000000 in
theorem is_any (which : Int) (x : Nd) (a : Option Addr) (c : Nat) (W : World) : Calls Tryz.prog 145 #[ndV x a c, .int .i64 which] W fun e w' => e = .returned (.bool (isW which x.kind x.num)) ∧ Below W.heap.size W w' := by
  obtain ⟨kd, tx, nm, ks, at'⟩ := x
  simp only [ndV]
  have hB1 : Below W.heap.size W (W.alloc (.cells #[.int .i64 kd, .string tx, .int .i64 nm, .slice a ks.length c, .int .i64 at'] 41)) := (Below.refl _ W).alloc (Nat.le_refl _) _
  by_cases h0 : which = 1000
  · subst h0
    go_enter Tryz.func145, Tryz.ntmps145
    go_wp2_with (go_at_call 28; refine (rExpr_any kd _).mono ?_; rintro e w2 ⟨rfl, rfl⟩)
    go_ret
    exact ⟨rfl, hB1⟩
  by_cases h1 : which = 1001
  · subst h1
    go_enter Tryz.func145, Tryz.ntmps145
    go_wp2_with (go_at_call 155; refine (rType_any kd _).mono ?_; rintro e w2 ⟨rfl, rfl⟩)
    go_ret
    exact ⟨rfl, hB1⟩
  by_cases h2 : which = 1002
  · subst h2
    go_enter Tryz.func145, Tryz.ntmps145
    go_wp2_with (go_at_call 156; refine (rStmt_any kd _).mono ?_; rintro e w2 ⟨rfl, rfl⟩)
    go_ret
    exact ⟨rfl, hB1⟩
  by_cases h3 : which = 1003
  · subst h3
    have HR : Hid (isW 1003 kd nm = (kd == 66 && zo nm)) := rfl
    go_enter Tryz.func145, Tryz.ntmps145
    cases e1 : (kd == 66) with
    | false =>
      go_wp2
      go_ret
      exact ⟨ret_b (by rw [unhide HR, e1]; rfl), hB1⟩
    | true =>
      cases e2 : (nm == 0) with
      | true =>
        go_wp2
        go_ret
        exact ⟨ret_b (by rw [unhide HR, e1]; simp [zo, e2]), hB1⟩
      | false =>
        go_wp2
        go_ret
        exact ⟨ret_b (by rw [unhide HR, e1]; simp [zo, e2]), hB1⟩
  by_cases h4 : which = 1004
  · subst h4
    go_enter Tryz.func145, Tryz.ntmps145
    go_wp2
    go_ret
    exact ⟨rfl, hB1⟩
  by_cases h5 : which = 1005
  · subst h5
    have HR : Hid (isW 1005 kd nm = (kd == 44 || kd == 45 || kd == 46)) := rfl
    go_enter Tryz.func145, Tryz.ntmps145
    cases e1 : (kd == 44) with
    | true =>
      go_wp2
      go_ret
      exact ⟨ret_b (by rw [unhide HR, e1]; rfl), hB1⟩
    | false =>
      cases e2 : (kd == 45) with
      | true =>
        go_wp2
        go_ret
        exact ⟨ret_b (by rw [unhide HR, e1, e2]; rfl), hB1⟩
      | false =>
        go_wp2
        go_ret
        exact ⟨ret_b (by rw [unhide HR, e1, e2]; rfl), hB1⟩
  have HR : Hid (isW which kd nm = (kd == which)) := by show isW which kd nm = _; simp only [isW, h0, h1, h2, h3, h4, h5, if_false]
  have e0 : (which == 1000) = false := by simpa using h0
  have e1 : (which == 1001) = false := by simpa using h1
  have e2 : (which == 1002) = false := by simpa using h2
  have e3 : (which == 1003) = false := by simpa using h3
  have e4 : (which == 1004) = false := by simpa using h4
  have e5 : (which == 1005) = false := by simpa using h5
  clear h0 h1 h2 h3 h4 h5
  go_enter Tryz.func145, Tryz.ntmps145
  go_wp2
  go_ret
  exact ⟨ret_b (unhide HR).symm, hB1⟩
end Go.Proofs.YtnnpkomedpjlcaaGreatDoor

/- The reference's Kid. -/

namespace Go.Proofs.YtnnpkomedpjlcaaGreatDoor
set_option linter.unusedSimpArgs false
set_option linter.unusedVariables false
open Go.RowKit

/-- The node of a kid, the empty node if there is none. -/
def kidN (l : List Nd) (n i : Nat) : Nd := if i < (nd l n).kids.length then (if ins l ((nd l n).kids.getD i 0) then nd l ((nd l n).kids.getD i 0).toNat else nd0) else nd0
/-- What Kid answers. -/
def KidQ (x : Nd) (M : Nat) (W : World) (e : Ending) (w' : World) : Prop := ∃ a c, e = .returned (ndV x a c) ∧ x.kids.length ≤ c ∧ c ≤ maxLen ∧ KidsAt W M a x.kids ∧ Below W.heap.size W w'

theorem kid_boxes {W w : World} {v : Value} (h : Below (W.heap.size + 2) ((W.alloc (.cells #[v] 24)).alloc (.cells #[.int .i64 0, .string ⟨#[]⟩, .int .i64 0, .slice none 0 0, .int .i64 0] 41)) w) :
    Below W.heap.size W w ∧ w.cell? ⟨W.heap.size, 0, none⟩ = some v ∧ w.heap[W.heap.size + 1]? = some (.cells #[.int .i64 0, .string ⟨#[]⟩, .int .i64 0, .slice none 0 0, .int .i64 0] 41) ∧ W.heap.size + 2 ≤ w.heap.size := by
  have e1 := (h.block W.heap.size (by omega)).trans (rat_a2 W _ _)
  have e2 := (h.block (W.heap.size + 1) (by omega)).trans (rat_a3 W _ _)
  refine ⟨(((Below.refl _ W).alloc (Nat.le_refl _) _).alloc (by simp) _).trans (h.mono (by omega)), ?_, e2, by have := h.size; simp at this; omega⟩
  rw [Lib.cell_of_heap e1]; rfl

set_option maxRecDepth 100000 in
set_option maxHeartbeats 4000000 in
theorem kid_any (W : World) (M : Nat) (v : Value) (l : List Nd) (n i : Nat) (hN : Nodes W M v l) (hM : M ≤ W.heap.size) (hn : n < l.length) (hi : i ≤ 17592186044416) :
    Calls Tryz.prog 111 #[.agg #[v], .int .i64 (n : Int), .int .i64 (i : Int)] W (KidQ (kidN l n i) M W) := by
  obtain ⟨W1, hW1⟩ : ∃ W1, (W.alloc (.cells #[v] 24)).alloc (.cells #[.int .i64 0, .string ⟨#[]⟩, .int .i64 0, .slice none 0 0, .int .i64 0] 41) = W1 := ⟨_, rfl⟩
  obtain ⟨k1, k2, k3, k4⟩ := kid_boxes (v := v) (w := W1) (by rw [hW1]; exact Below.refl _ _)
  have HN := hide hN
  have hl1 := hN.1
  obtain ⟨b, o, cap, ka, kc, rfl, hc1, hc2, hb, d0, d1, d2, d3, d4, hkc, hkm, hK⟩ := (hN.keep k1 hM).at hn
  have hlt' : (n : Int) < l.length := by omega
  have hn0 : (0 : Int) ≤ (n : Int) := by omega
  have hi0 : (0 : Int) ≤ (i : Int) := by omega
  have hbl : b < W1.heap.size := by have := k1.size; omega
  obtain ⟨r0, r1, r2, r3, r4⟩ := rcells5 k3
  have f0 := rfrozen_at k3 0
  have f1 := rfrozen_at k3 1
  have f2 := rfrozen_at k3 2
  have f3 := rfrozen_at k3 3
  have f4 := rfrozen_at k3 4
  have s1 : W.heap.size < W1.heap.size := by omega
  have s2 : W.heap.size + 1 < W1.heap.size := by omega
  have HW1 := hide hW1
  have HK3 := hide k3
  clear hN hW1 d0 d1 d2 d4 k3
  by_cases hik : i < (nd l n).kids.length
  · have hik' : (i : Int) < (nd l n).kids.length := by omega
    rcases hK with h | ⟨kb, ko, rfl, hkb, hkc0⟩
    · rw [h] at hik; simp at hik
    have dk := hkc0 i hik
    have hkl : kb < W1.heap.size := by have := k1.size; omega
    have hkk : (nd l n).kids.length ≤ 17592186044416 := ((unhide HN).2.1 n hn).2
    have HKN : Hid (kidN l n i = if ins l ((nd l n).kids.getD i 0) then nd l ((nd l n).kids.getD i 0).toNat else nd0) := by show kidN l n i = _; simp only [kidN, if_pos hik]
    obtain ⟨k, hk⟩ : ∃ k, (nd l n).kids.getD i 0 = k := ⟨_, rfl⟩
    rw [hk] at dk HKN
    clear hkc0 hk
    cases hin : ins l k with
    | true =>
      have hq := ins_iff'.1 hin
      obtain ⟨q, hq1⟩ : ∃ q : Nat, k = (q : Int) := ⟨k.toNat, by omega⟩
      subst hq1
      have hql : q < l.length := by omega
      obtain ⟨b2, o2, cap2, qa, qc, hv, _, _, _, e0, e1, e2, e3, e4, hqc, hqm, hQ⟩ := ((unhide HN).keep k1 hM).at hql
      cases hv
      obtain ⟨x, hx⟩ : ∃ x, nd l q = x := ⟨_, rfl⟩
      have HKX : Hid (kidN l n i = x) := by show kidN l n i = x; rw [unhide HKN, hin, if_pos rfl, ← hx]; simp
      have HQA : Hid (KidsAt W M qa x.kids) := by
        show KidsAt W M qa x.kids
        obtain ⟨b3, o3, cap3, qa3, qc3, hv3, _, _, _, _, _, _, g3, _, _, _, hQ3⟩ := (unhide HN).at hql
        cases hv3
        have g3' := (k1.cell (p := ⟨b, o + q * 5 + 3, none⟩) (show b < W.heap.size by omega)).trans g3
        rw [e3] at g3'
        cases g3'
        rw [← hx]
        exact hQ3
      rw [hx] at e0 e1 e2 e3 e4 hqc
      have hq0 : (0 : Int) ≤ (q : Int) := by omega
      have hq2 : ¬ (q : Int) < 0 := by omega
      have hq3 : ¬ (l.length : Int) ≤ (q : Int) := by omega
      clear hQ hx hin HKN hq
      have hW1 := unhide HW1
      subst hW1
      go_enter Tryz.func111, Tryz.ntmps111
      go_wp2
      refine bodyPost_ret (v := ndV x qa qc) (by simp [results, Tryz.results111, go_sem, ndV]) rfl ⟨qa, qc, by rw [unhide HKX], by rw [unhide HKX]; exact hqc, hqm, by rw [unhide HKX]; exact unhide HQA, (((Below.refl _ W).alloc (Nat.le_refl _) _).alloc (by simp) _)⟩
    | false =>
      have hq := ins_false.1 hin
      have HKX : Hid (kidN l n i = nd0) := by show kidN l n i = nd0; rw [unhide HKN, hin]; rfl
      by_cases hk0 : k < 0
      · clear hin HKN hq
        have hW1 := unhide HW1
        subst hW1
        go_enter Tryz.func111, Tryz.ntmps111
        go_wp2
        refine bodyPost_ret (v := ndV nd0 none 0) (by simp [results, Tryz.results111, go_sem, ndV, nd0]) rfl ⟨none, 0, by rw [unhide HKX], by rw [unhide HKX]; exact Nat.le_refl _, Nat.zero_le _, by rw [unhide HKX]; exact .inl rfl, (((Below.refl _ W).alloc (Nat.le_refl _) _).alloc (by simp) _)⟩
      · have hk1 : (l.length : Int) ≤ k := by omega
        clear hin HKN hq
        have hW1 := unhide HW1
        subst hW1
        go_enter Tryz.func111, Tryz.ntmps111
        go_wp2
        refine bodyPost_ret (v := ndV nd0 none 0) (by simp [results, Tryz.results111, go_sem, ndV, nd0]) rfl ⟨none, 0, by rw [unhide HKX], by rw [unhide HKX]; exact Nat.le_refl _, Nat.zero_le _, by rw [unhide HKX]; exact .inl rfl, (((Below.refl _ W).alloc (Nat.le_refl _) _).alloc (by simp) _)⟩
  · have hik' : ((nd l n).kids.length : Int) ≤ (i : Int) := by omega
    have HKX : Hid (kidN l n i = nd0) := by show kidN l n i = nd0; simp only [kidN, if_neg hik]
    clear hK
    have hW1 := unhide HW1
    subst hW1
    go_enter Tryz.func111, Tryz.ntmps111
    go_wp2
    refine bodyPost_ret (v := ndV nd0 none 0) (by simp [results, Tryz.results111, go_sem, ndV, nd0]) rfl ⟨none, 0, by rw [unhide HKX], by rw [unhide HKX]; exact Nat.le_refl _, Nat.zero_le _, by rw [unhide HKX]; exact .inl rfl, (((Below.refl _ W).alloc (Nat.le_refl _) _).alloc (by simp) _)⟩
end Go.Proofs.YtnnpkomedpjlcaaGreatDoor

/- The reference's each: are all kids of a place, or of another one? -/
namespace Go.Proofs.YtnnpkomedpjlcaaGreatDoor
set_option linter.unusedSimpArgs false
set_option linter.unusedVariables false
open Go.RowKit

/-- The first kids are of one of two places. -/
def eachU (l : List Nd) (n : Nat) (a b : Int) : Nat → Bool
  | 0 => true
  | i + 1 => eachU l n a b i && (isW a (kidN l n i).kind (kidN l n i).num || isW b (kidN l n i).kind (kidN l n i).num)
theorem eachU_le {l : List Nd} {n : Nat} {a b : Int} {i : Nat} (h : eachU l n a b i = false) : ∀ {j}, i ≤ j → eachU l n a b j = false
  | 0, hj => by obtain rfl : i = 0 := by omega
                exact h
  | j + 1, hj => by
    by_cases e : i = j + 1
    · subst e; exact h
    · show (eachU l n a b j && _) = false
      rw [eachU_le h (by omega)]; rfl

set_option maxRecDepth 100000 in
set_option maxHeartbeats 4000000 in
theorem each_any (W : World) (M : Nat) (v : Value) (l : List Nd) (n : Nat) (a b : Int) (hN : Nodes W M v l) (hM : M ≤ W.heap.size) (hn : n < l.length) :
    Calls Tryz.prog 110 #[.agg #[v], .int .i64 (n : Int), .int .i64 a, .int .i64 b] W fun e w' => e = .returned (.bool (eachU l n a b (nd l n).kids.length)) ∧ Below W.heap.size W w' := by
  obtain ⟨W1, hW1⟩ : ∃ W1, W.alloc (.cells #[v] 24) = W1 := ⟨_, rfl⟩
  have HK : Hid (∀ w, Below (W.heap.size + 1) W1 w → _) := fun w hw => rbox_at (v := v) (by rw [hW1]; exact hw)
  have hz1 : W1.heap.size = W.heap.size + 1 := by rw [← hW1]; simp
  have HN := hide hN
  have hkk := (hN.2.1 n hn).2
  have hl1 := hN.1
  obtain ⟨bb, o, cap, ka, kc, rfl, hc1, hc2, hb, _, _, _, d3, _, hkc, hkm, hK⟩ := hN.at hn
  have hlt' : (n : Int) < l.length := by omega
  have hn0 : (0 : Int) ≤ (n : Int) := by omega
  have HD : Hid (∀ w, Below (W.heap.size + 1) W1 w → w.cell? ⟨bb, o + n * 5 + 3, none⟩ = some (.slice ka (nd l n).kids.length kc) ∧ bb < w.heap.size) := fun w hw => by
    have h1 := (unhide HK w hw).1
    exact ⟨(h1.cell (p := ⟨bb, o + n * 5 + 3, none⟩) (show bb < W.heap.size by omega)).trans d3, by have := h1.size; omega⟩
  have HKD : Hid (∀ w, Below (W.heap.size + 1) W1 w → ∀ i : Nat, i ≤ 17592186044416 → Calls Tryz.prog 111 #[.agg #[.slice (some ⟨bb, o, none⟩) l.length cap], .int .i64 (n : Int), .int .i64 (i : Int)] w (KidQ (kidN l n i) M w)) := fun w hw i hi =>
    kid_any w M _ l n i ((unhide HN).keep (unhide HK w hw).1 hM) (by have := (unhide HK w hw).2.2; omega) hn hi
  obtain ⟨nk, hnk⟩ : ∃ nk, (nd l n).kids.length = nk := ⟨_, rfl⟩
  rw [hnk] at HD hkk ⊢
  have HW1 := hide hW1
  have HB0 : Hid (Below (W.heap.size + 1) W1 (W.alloc (.cells #[.slice (some ⟨bb, o, none⟩) l.length cap] 24))) := by rw [hW1]; exact Below.refl _ _
  clear hN hW1 d3 hK hnk hkc hkm
  go_enter Tryz.func110, Tryz.ntmps110
  go_wp2
  go_loopw [9] (fun t wr => ∃ i : Nat, i ≤ nk ∧ t = .int .i64 (i : Int) ∧ eachU l n a b i = true ∧ Below (W.heap.size + 1) W1 wr) (fun t _ => nk - (intOf t).toNat)
  case atStart => exact ⟨0, Nat.zero_le _, rfl, rfl, unhide HB0⟩
  case round =>
    obtain ⟨i, hil, rfl, hu, hBr⟩ := hrel
    obtain ⟨r1, r2, r3⟩ := unhide HK wr hBr
    obtain ⟨d3, hbw⟩ := unhide HD wr hBr
    have HU := hide hu
    clear hu
    by_cases hlt : i < nk
    · have hlt2 : (i : Int) < nk := by omega
      have HC := hide (unhide HKD wr hBr i (by omega))
      obtain ⟨x, hx⟩ : ∃ x, kidN l n i = x := ⟨_, rfl⟩
      rw [hx] at HC
      have HX := hide hx
      clear hx
      have HS : Hid (eachU l n a b (i + 1) = (isW a x.kind x.num || isW b x.kind x.num)) := by
        show (eachU l n a b i && (isW a (kidN l n i).kind (kidN l n i).num || isW b (kidN l n i).kind (kidN l n i).num)) = _
        rw [unhide HU, unhide HX]; rfl
      cases ha : isW a x.kind x.num with
      | true =>
        have HA := hide ha
        clear ha
        go_wp2_with (first
          | (go_at_call 111; refine (unhide HC).mono ?_; rintro e w2 ⟨a2, c2, he, _, _, _, hB2⟩; simp only [ndV] at he; subst he; have hz2 := hB2.size)
          | (go_at_call 145; refine (is_any a x a2 c2 _).mono ?_; rw [unhide HA]; rintro e w3 ⟨rfl, hB3⟩))
        refine ⟨⟨i + 1, by omega, by go_num, by rw [unhide HS, unhide HA]; rfl, ?_⟩, by simp [intOf]; omega⟩
        exact ((hBr.trans (hB2.mono (by omega))).alloc (by omega) _).trans (hB3.mono (by simp; omega))
      | false =>
        have HA := hide ha
        clear ha
        cases hb2 : isW b x.kind x.num with
        | true =>
          have HB := hide hb2
          clear hb2
          go_wp2_with (first
            | (go_at_call 111; refine (unhide HC).mono ?_; rintro e w2 ⟨a2, c2, he, _, _, _, hB2⟩; simp only [ndV] at he; subst he; have hz2 := hB2.size)
            | (go_at_call_of 145 a; refine (is_any a x a2 c2 _).mono ?_; rw [unhide HA]; rintro e w3 ⟨rfl, hB3⟩; have hz3 := hB3.size; simp at hz3; obtain ⟨y0, y1, y2, y3, y4⟩ := rcells5 ((hB3.block w2.heap.size (by simp)).trans (World.alloc_heap_new w2 _)); have hw23 : w2.heap.size < w3.heap.size := (by omega))
            | (go_at_call_of 145 b; refine (is_any b x a2 c2 _).mono ?_; rw [unhide HB]; rintro e w4 ⟨rfl, hB4⟩))
          refine ⟨⟨i + 1, by omega, by go_num, by rw [unhide HS, unhide HA, unhide HB]; rfl, ?_⟩, by simp [intOf]; omega⟩
          exact (((hBr.trans (hB2.mono (by omega))).alloc (by omega) _).trans (hB3.mono (by simp; omega))).trans (hB4.mono (by omega))
        | false =>
          have HB := hide hb2
          clear hb2
          have HF : Hid (eachU l n a b nk = false) := eachU_le (i := i + 1) (by rw [unhide HS, unhide HA, unhide HB]; rfl) (by omega)
          go_wp2_with (first
            | (go_at_call 111; refine (unhide HC).mono ?_; rintro e w2 ⟨a2, c2, he, _, _, _, hB2⟩; simp only [ndV] at he; subst he; have hz2 := hB2.size)
            | (go_at_call_of 145 a; refine (is_any a x a2 c2 _).mono ?_; rw [unhide HA]; rintro e w3 ⟨rfl, hB3⟩; have hz3 := hB3.size; simp at hz3; obtain ⟨y0, y1, y2, y3, y4⟩ := rcells5 ((hB3.block w2.heap.size (by simp)).trans (World.alloc_heap_new w2 _)); have hw23 : w2.heap.size < w3.heap.size := (by omega))
            | (go_at_call_of 145 b; refine (is_any b x a2 c2 _).mono ?_; rw [unhide HB]; rintro e w4 ⟨rfl, hB4⟩))
          go_ret
          refine ⟨ret_b (unhide HF).symm, ?_⟩
          exact r1.trans ((hB2.mono (by omega)).trans ((((Below.refl W.heap.size w2).alloc (by omega) _).trans (hB3.mono (by simp; omega))).trans (hB4.mono (by omega))))
    · have hlt2 : ¬ (i : Int) < nk := by omega
      obtain rfl : i = nk := by omega
      go_wp2
      go_ret
      exact ⟨ret_b (unhide HU).symm, r1⟩
end Go.Proofs.YtnnpkomedpjlcaaGreatDoor

/- What the reference asks of kids, as plain data: rows, lists, each kind; and that the table asks the same. -/
namespace Go.Proofs.YtnnpkomedpjlcaaGreatDoor
set_option linter.unusedSimpArgs false
set_option linter.unusedVariables false

/-- The first kids of a List are of a place. -/
def listU (l : List Nd) (ks : List Int) (w : Int) : Nat → Bool
  | 0 => true
  | i + 1 => listU l ks w i && (ins l (ks.getD i 0) && isW w (nd l (ks.getD i 0).toNat).kind (nd l (ks.getD i 0).toNat).num)
/-- A List of a place. -/
def listX (l : List Nd) (w : Int) (x : Nd) : Bool := x.kind == 2 && listU l x.kids w x.kids.length
def listR (l : List Nd) (n i : Nat) (w : Int) : Bool := listX l w (kidN l n i)
/-- A place of a row (below 0: that, or None). -/
def plR (q : Int) (x : Nd) : Bool := if q < 0 then x.kind == 1 || isW (-q) x.kind x.num else if q ≤ 0 then false else isW q x.kind x.num
def rowU (l : List Nd) (n : Nat) (L : List Int) : Nat → Bool
  | 0 => true
  | i + 1 => rowU l n L i && plR (L.getD i 0) (kidN l n i)
def rowR (l : List Nd) (n : Nat) (L : List Int) : Bool := (nd l n).kids.length == L.length && rowU l n L L.length
/-- A Name, or Members over one. -/
def namedR (l : List Nd) : Nat → Int → Bool
  | 0, _ => false
  | f + 1, k => ins l k && ((nd l k.toNat).kind == 17 || ((nd l k.toNat).kind == 29 && (nd l k.toNat).kids.length == 1 && namedR l f ((nd l k.toNat).kids.getD 0 0)))
def tmplU (l : List Nd) (n : Nat) : Nat → Bool
  | 0 => true
  | i + 1 => tmplU l n i && (if i % 2 = 0 then (kidN l n i).kind == 11 else isE (kidN l n i).kind)
def funcR (l : List Nd) (n : Nat) : Bool := rowR l n [2, 2, -1001, 63] && (listR l n 0 67 && listR l n 1 1003)
def exptR (x : Nd) : Bool := [41, 42, 49, 51, 52].contains x.kind || ((x.kind == 40 && x.num == 1) || (x.kind == 47 && !(x.num == 1)))
/-- What the reference asks of the kids, by the kind. -/
def kidR : Nat → List Nd → Nat → Bool
  | 2 => fun l n => (nd l n).kids.all fun k => ins l k
  | 3 => fun l n => eachU l n 1002 1002 (nd l n).kids.length
  | 63 => fun l n => eachU l n 1002 1002 (nd l n).kids.length
  | 12 => fun l n => tmplU l n (nd l n).kids.length && (nd l n).kids.length % 2 == 1
  | 19 => fun l n => eachU l n 1000 1000 (nd l n).kids.length
  | 20 => fun l n => eachU l n 21 21 (nd l n).kids.length
  | 21 => fun l n => rowR l n [1000]
  | 23 => fun l n => rowR l n [1000]
  | 29 => fun l n => rowR l n [1000]
  | 34 => fun l n => rowR l n [1000]
  | 22 => fun l n => (nd l n).kids.length == 3 && (listR l n 0 67 && (listR l n 1 1003 && ((kidN l n 2).kind == 63 || isE (kidN l n 2).kind)))
  | 24 => fun l n => rowR l n [1000, 1000]
  | 30 => fun l n => rowR l n [1000, 1000]
  | 25 => fun l n => rowR l n [1000, 1000, 1000]
  | 26 => fun l n => rowR l n [1000, 1000] && ((kidN l n 0).kind == 17 || ((kidN l n 0).kind == 29 || (kidN l n 0).kind == 30))
  | 27 => fun l n => rowR l n [1000, 2, 2] && (listR l n 1 1001 && listR l n 2 1000)
  | 28 => fun l n => rowR l n [1000, 2, 2] && (namedR l (l.length + 1) ((nd l n).kids.getD 0 0) && (listR l n 1 1001 && listR l n 2 1000))
  | 31 => fun l n => (nd l n).kids.length == 1 && listR l n 0 1000
  | 33 => fun l n => rowR l n [1000, 1001]
  | 80 => fun l n => (nd l n).kids.length == 1 && listR l n 0 1001
  | 83 => fun l n => rowR l n [1001]
  | 85 => fun l n => rowR l n [1001]
  | 84 => fun l n => eachU l n 85 85 (nd l n).kids.length
  | 86 => fun l n => rowR l n [2, 1001] && listR l n 0 1003
  | 87 => fun l n => decide (2 ≤ (nd l n).kids.length) && eachU l n 1001 1001 (nd l n).kids.length
  | 40 => fun l n => rowR l n [-1001, 1000]
  | 41 => funcR
  | 45 => funcR
  | 42 => fun l n => rowR l n [2, -43, 2, 2] && (listR l n 0 67 && (listR l n 2 80 && (listR l n 3 1005 && decide (cnt l (kidN l n 3).kids (kidN l n 3).kids.length ≤ 1))))
  | 43 => fun l n => (nd l n).kids.length == 1 && listR l n 0 1001
  | 44 => fun l n => rowR l n [-1001, -1000]
  | 46 => fun l n => rowR l n [2, 63] && listR l n 0 1004
  | 47 => fun l n => eachU l n 48 48 (nd l n).kids.length
  | 48 => fun l n => rowR l n [-1000]
  | 49 => fun l n => eachU l n 1002 50 (nd l n).kids.length
  | 50 => fun l n => (nd l n).kids.length == 1 && exptR (kidN l n 0)
  | 51 => fun l n => rowR l n [2, 2, 84] && (listR l n 0 67 && listR l n 1 80)
  | 52 => fun l n => rowR l n [2, 1001] && listR l n 0 67
  | 66 => fun l n => rowR l n [-1001]
  | 53 => fun l n => (nd l n).kids.length == 3 && (isE (kidN l n 0).kind && ((kidN l n 1).kind == 63 && ((kidN l n 2).kind == 63 || ((kidN l n 2).kind == 53 || (kidN l n 2).kind == 1))))
  | 54 => fun l n => rowR l n [1000, 63]
  | 56 => fun l n => rowR l n [1000, 63]
  | 55 => fun l n => rowR l n [-40, -1000, -1000, 63] && ((kidN l n 0).kind == 1 || (kidN l n 0).num == 0)
  | 57 => fun l n => rowR l n [-1000]
  | 60 => fun l n => rowR l n [1000]
  | 64 => fun l n => rowR l n [1000]
  | 61 => fun l n => rowR l n [63, -62, -63] && ((kidN l n 1).kind == 62 || (kidN l n 2).kind == 63)
  | 62 => fun l n => rowR l n [63]
  | _ => fun l n => (nd l n).kids.length == 0

/-- The node of a number, the empty one if there is none. -/
def K (l : List Nd) (k : Int) : Nd := if ins l k then nd l k.toNat else nd0
theorem kidN_K {l : List Nd} {n i : Nat} (h : i < (nd l n).kids.length) : kidN l n i = K l ((nd l n).kids.getD i 0) := by simp only [kidN, if_pos h, K]

theorem listU_iff {l : List Nd} {ks : List Int} {w : Int} : ∀ {i}, listU l ks w i = true ↔ ∀ j, j < i → (ins l (ks.getD j 0) && isW w (nd l (ks.getD j 0).toNat).kind (nd l (ks.getD j 0).toNat).num) = true
  | 0 => ⟨fun _ j hj => by omega, fun _ => rfl⟩
  | i + 1 => by
    show (listU l ks w i && _) = true ↔ _
    rw [Bool.and_eq_true, listU_iff (i := i)]
    refine ⟨fun h j hj => ?_, fun h => ⟨fun j hj => h j (by omega), h i (by omega)⟩⟩
    by_cases e : j = i
    · subst e; exact h.2
    · exact h.1 j (by omega)
theorem eachU_iff {l : List Nd} {n : Nat} {a b : Int} : ∀ {i}, eachU l n a b i = true ↔ ∀ j, j < i → (isW a (kidN l n j).kind (kidN l n j).num || isW b (kidN l n j).kind (kidN l n j).num) = true
  | 0 => ⟨fun _ j hj => by omega, fun _ => rfl⟩
  | i + 1 => by
    show (eachU l n a b i && _) = true ↔ _
    rw [Bool.and_eq_true, eachU_iff (i := i)]
    refine ⟨fun h j hj => ?_, fun h => ⟨fun j hj => h j (by omega), h i (by omega)⟩⟩
    by_cases e : j = i
    · subst e; exact h.2
    · exact h.1 j (by omega)
end Go.Proofs.YtnnpkomedpjlcaaGreatDoor

/- The reference's list: is a kid a List of a place? -/
namespace Go.Proofs.YtnnpkomedpjlcaaGreatDoor
set_option linter.unusedSimpArgs false
set_option linter.unusedVariables false
open Go.RowKit

theorem listU_le {l : List Nd} {ks : List Int} {w : Int} {i : Nat} (h : listU l ks w i = false) : ∀ {j}, i ≤ j → listU l ks w j = false
  | 0, hj => by obtain rfl : i = 0 := by omega
                exact h
  | j + 1, hj => by
    by_cases e : i = j + 1
    · subst e; exact h
    · show (listU l ks w j && _) = false
      rw [listU_le h (by omega)]; rfl
/-- The box at the head and the node behind it. -/
theorem list_at {W w2 w : World} {v : Value} {C : Array Value} (h2 : Below (W.heap.size + 1) (W.alloc (.cells #[v] 24)) w2) (h : Below (w2.heap.size + 1) (w2.alloc (.cells C 41)) w) :
    Below W.heap.size W w ∧ w.cell? ⟨W.heap.size, 0, none⟩ = some v ∧ W.heap.size < w.heap.size ∧ w.heap[w2.heap.size]? = some (.cells C 41) ∧ w2.heap.size < w.heap.size := by
  have hz := h2.size
  simp at hz
  have hB : Below (W.heap.size + 1) (W.alloc (.cells #[v] 24)) w := (h2.alloc (by omega) _).trans (h.mono (by omega))
  obtain ⟨a, b, c⟩ := rbox_at hB
  exact ⟨a, b, c, (h.block _ (by omega)).trans (World.alloc_heap_new w2 _), by have := h.size; simp at this; omega⟩

set_option maxRecDepth 100000 in
set_option maxHeartbeats 4000000 in
theorem list_any (W : World) (M : Nat) (v : Value) (l : List Nd) (n i : Nat) (q : Int) (hN : Nodes W M v l) (hM : M ≤ W.heap.size) (hn : n < l.length) (hi : i ≤ 17592186044416) :
    Calls Tryz.prog 108 #[.agg #[v], .int .i64 (n : Int), .int .i64 (i : Int), .int .i64 q] W fun e w' => e = .returned (.bool (listR l n i q)) ∧ Below W.heap.size W w' := by
  obtain ⟨W1, hW1⟩ : ∃ W1, W.alloc (.cells #[v] 24) = W1 := ⟨_, rfl⟩
  have hz1 : W1.heap.size = W.heap.size + 1 := by rw [← hW1]; simp
  have hB1 : Below W.heap.size W W1 := by rw [← hW1]; exact (Below.refl _ W).alloc (Nat.le_refl _) _
  have HC := hide (kid_any W1 M v l n i (hN.keep hB1 hM) (by omega) hn hi)
  obtain ⟨x, hx⟩ : ∃ x, kidN l n i = x := ⟨_, rfl⟩
  have hlk : x.kids.length ≤ 17592186044416 := by
    rw [← hx]
    simp only [kidN]
    split
    · split
      · rename_i h2
        exact (hN.2.1 _ (ins_iff.1 h2).2).2
      · exact Nat.zero_le _
    · exact Nat.zero_le _
  have HR : Hid (listR l n i q = listX l q x) := by show listR l n i q = _; rw [listR, hx]
  rw [hx] at HC
  have HN := hide hN
  have hl1 := hN.1
  obtain ⟨bb, o, vc, _, _, rfl, hvc, _, hbb, _⟩ := hN.at hn
  have HW1 := hide hW1
  rw [← hW1] at HC
  clear hN hx hW1
  cases hk : (x.kind == 2) with
  | false =>
    have HF : Hid (listX l q x = false) := by show listX l q x = false; rw [listX, hk]; rfl
    go_enter Tryz.func108, Tryz.ntmps108
    go_wp2_with (go_at_call 111; refine (unhide HC).mono ?_; rw [unhide HW1]; rintro e w2 ⟨a2, c2, he, h1, h2, hK, hB2⟩; simp only [ndV] at he; subst he; have hz2 := hB2.size)
    go_ret
    refine ⟨ret_b (by rw [unhide HR, unhide HF]), ?_⟩
    exact (hB1.trans (hB2.mono (by omega))).alloc (by omega) _
  | true =>
    obtain ⟨kd, tx, nm, ks, at'⟩ := x
    obtain rfl : kd = 2 := by simpa using hk
    go_enter Tryz.func108, Tryz.ntmps108
    go_wp2_with (go_at_call 111; refine (unhide HC).mono ?_; rw [unhide HW1]; rintro e w2 ⟨a2, c2, he, h1, h2, hK, hB2⟩; simp only [ndV] at he h1 hK; subst he; have hz2 := hB2.size)
    have HL : Hid (∀ w, Below (w2.heap.size + 1) (w2.alloc (.cells #[.int .i64 2, .string tx, .int .i64 nm, .slice a2 ks.length c2, .int .i64 at'] 41)) w → _) := fun w hw => list_at (v := .slice (some ⟨bb, o, none⟩) l.length vc) (by rw [unhide HW1]; exact hB2.mono (by omega)) hw
    have HKK : Hid (∀ w, Below W.heap.size W w → KidsAt w M a2 ks) := fun w hw => by
      rcases hK with h | ⟨kb, ko, ha, hb, hc⟩
      · exact .inl h
      · refine .inr ⟨kb, ko, ha, hb, fun j hj => ?_⟩
        have h3 := hc j hj
        rw [hB1.cell (p := ⟨kb, ko + j, none⟩) (show kb < W.heap.size by omega)] at h3
        rw [hw.cell (p := ⟨kb, ko + j, none⟩) (show kb < W.heap.size by omega)]
        exact h3
    have HX2 : Hid (listX l q ⟨2, tx, nm, ks, at'⟩ = listU l ks q ks.length) := by show listX l q ⟨2, tx, nm, ks, at'⟩ = _; rw [listX]; rfl
    obtain ⟨nk, hnk⟩ : ∃ nk, ks.length = nk := ⟨_, rfl⟩
    try simp only at hlk
    have HNK := hide hnk
    obtain ⟨W3, hW3⟩ : ∃ W3, w2.alloc (.cells #[.int .i64 2, .string tx, .int .i64 nm, .slice a2 ks.length c2, .int .i64 at'] 41) = W3 := ⟨_, rfl⟩
    rw [hW3] at HL ⊢
    rw [hnk] at hlk h1 HL HX2
    clear hK hW3 hnk hB2
    go_loopw [10] (fun t wr => ∃ j : Nat, j ≤ nk ∧ t = .int .i64 (j : Int) ∧ listU l ks q j = true ∧ Below (w2.heap.size + 1) W3 wr) (fun t _ => nk - (intOf t).toNat)
    case atStart => exact ⟨0, Nat.zero_le _, rfl, rfl, Below.refl _ _⟩
    case round =>
      obtain ⟨j, hjl, rfl, hu, hBr⟩ := hrel
      obtain ⟨r1, r2, r3, r4, r5⟩ := unhide HL wr hBr
      obtain ⟨y0, y1, y2, y3, y4⟩ := rcells5 r4
      have hKr := unhide HKK wr r1
      have HU := hide hu
      have HR4 := hide r4
      clear hu r4
      by_cases hlt : j < nk
      · have hlt2 : (j : Int) < nk := by omega
        have hj0 : (0 : Int) ≤ (j : Int) := by omega
        rcases hKr with h | ⟨kb, ko, hka, hkb, hkc0⟩
        · rw [h] at HNK; simp [Hid] at HNK; omega
        rw [hka] at y3
        have HKA := hide hka
        clear hka
        have dk := hkc0 j (by rw [unhide HNK]; exact hlt)
        have hkbw : kb < wr.heap.size := by have := r1.size; omega
        obtain ⟨k, hk⟩ : ∃ k, ks.getD j 0 = k := ⟨_, rfl⟩
        rw [hk] at dk
        have HS : Hid (listU l ks q (j + 1) = (ins l k && isW q (nd l k.toNat).kind (nd l k.toNat).num)) := by
          show (listU l ks q j && (ins l (ks.getD j 0) && isW q (nd l (ks.getD j 0).toNat).kind (nd l (ks.getD j 0).toNat).num)) = _
          rw [unhide HU, hk]; rfl
        clear hkc0 hk
        cases hin : ins l k with
        | false =>
          have hq := ins_false.1 hin
          have HF : Hid (listU l ks q nk = false) := listU_le (i := j + 1) (by rw [unhide HS, hin]; rfl) (by omega)
          by_cases hk0 : k < 0
          · clear hin hq
            go_wp2
            go_ret
            exact ⟨ret_b (by rw [unhide HR, unhide HX2, unhide HF]), r1⟩
          · have hk1 : (l.length : Int) ≤ k := by omega
            clear hin hq
            go_wp2
            go_ret
            exact ⟨ret_b (by rw [unhide HR, unhide HX2, unhide HF]), r1⟩
        | true =>
          have hq := ins_iff'.1 hin
          obtain ⟨m, hm⟩ : ∃ m : Nat, k = (m : Int) := ⟨k.toNat, by omega⟩
          subst hm
          have hml : m < l.length := by omega
          obtain ⟨b3, o3, cap3, qa, qc, hv, _, _, hb3, e0, e1, e2, e3, e4, hqc, hqm, _⟩ := ((unhide HN).keep r1 hM).at hml
          obtain ⟨rfl, rfl, rfl⟩ : bb = b3 ∧ o = o3 ∧ vc = cap3 := by injection hv with h1 _ h3; injection h1 with h1; injection h1 with h4 h5; exact ⟨h4, h5, h3⟩
          clear hv
          obtain ⟨y, hy⟩ : ∃ y, nd l m = y := ⟨_, rfl⟩
          have HS2 : Hid (listU l ks q (j + 1) = isW q y.kind y.num) := by show listU l ks q (j + 1) = _; rw [unhide HS, hin, ← hy]; simp
          rw [hy] at e0 e1 e2 e3 e4
          have hq0 : (0 : Int) ≤ (m : Int) := by omega
          have hq2 : ¬ (m : Int) < 0 := by omega
          have hq3 : ¬ (l.length : Int) ≤ (m : Int) := by omega
          have hml' : (m : Int) < l.length := by omega
          have hbw3 : bb < wr.heap.size := by have := r1.size; omega
          have HI := hide (is_any q y qa qc wr)
          clear hin hq hy
          cases hw : isW q y.kind y.num with
          | true =>
            have HA := hide hw
            clear hw
            go_wp2_with (go_at_call 145; refine (unhide HI).mono ?_; rw [unhide HA]; rintro e w3 ⟨rfl, hB3⟩)
            refine ⟨⟨j + 1, by omega, by go_num, by rw [unhide HS2, unhide HA], hBr.trans (hB3.mono (by omega))⟩, by simp [intOf]; omega⟩
          | false =>
            have HA := hide hw
            clear hw
            have HF : Hid (listU l ks q nk = false) := listU_le (i := j + 1) (by rw [unhide HS2, unhide HA]) (by omega)
            go_wp2_with (go_at_call 145; refine (unhide HI).mono ?_; rw [unhide HA]; rintro e w3 ⟨rfl, hB3⟩)
            go_ret
            exact ⟨ret_b (by rw [unhide HR, unhide HX2, unhide HF]), r1.trans (hB3.mono (by have := r1.size; omega))⟩
      · have hlt2 : ¬ (j : Int) < nk := by omega
        obtain rfl : j = nk := by omega
        go_wp2
        go_ret
        exact ⟨ret_b (by rw [unhide HR, unhide HX2, unhide HU]), r1⟩
end Go.Proofs.YtnnpkomedpjlcaaGreatDoor

/- The reference's row: are the kids just these? -/
namespace Go.Proofs.YtnnpkomedpjlcaaGreatDoor
set_option linter.unusedSimpArgs false
set_option linter.unusedVariables false
open Go.RowKit

theorem rowU_le {l : List Nd} {n : Nat} {L : List Int} {i : Nat} (h : rowU l n L i = false) : ∀ {j}, i ≤ j → rowU l n L j = false
  | 0, hj => by obtain rfl : i = 0 := by omega
                exact h
  | j + 1, hj => by
    by_cases e : i = j + 1
    · subst e; exact h
    · show (rowU l n L j && _) = false
      rw [rowU_le h (by omega)]; rfl

set_option maxRecDepth 100000 in
set_option maxHeartbeats 8000000 in
theorem row_any (W : World) (M : Nat) (v : Value) (l : List Nd) (n : Nat) (L : List Int) (la : Option Addr) (lc : Nat) (hN : Nodes W M v l) (hM : M ≤ W.heap.size) (hn : n < l.length) (hL : KidsAt W W.heap.size la L) (hLl : L.length ≤ 100) (hLc : L.length ≤ lc) (hLm : lc ≤ maxLen) (hLq : ∀ q ∈ L, -2000 ≤ q ∧ q ≤ 2000) :
    Calls Tryz.prog 109 #[.agg #[v], .int .i64 (n : Int), .slice la L.length lc] W fun e w' => e = .returned (.bool (rowR l n L)) ∧ Below W.heap.size W w' := by
  obtain ⟨W1, hW1⟩ : ∃ W1, W.alloc (.cells #[v] 24) = W1 := ⟨_, rfl⟩
  have HK : Hid (∀ w, Below (W.heap.size + 1) W1 w → _) := fun w hw => rbox_at (v := v) (by rw [hW1]; exact hw)
  have hz1 : W1.heap.size = W.heap.size + 1 := by rw [← hW1]; simp
  have HN := hide hN
  have hkk := (hN.2.1 n hn).2
  have hl1 := hN.1
  obtain ⟨bb, o, cap, ka, kc, rfl, hc1, hc2, hb, _, _, _, d3, _, hkc, hkm, hK⟩ := hN.at hn
  have hlt' : (n : Int) < l.length := by omega
  have hn0 : (0 : Int) ≤ (n : Int) := by omega
  have HD : Hid (∀ w, Below (W.heap.size + 1) W1 w → w.cell? ⟨bb, o + n * 5 + 3, none⟩ = some (.slice ka (nd l n).kids.length kc) ∧ bb < w.heap.size) := fun w hw => by
    have h1 := (unhide HK w hw).1
    exact ⟨(h1.cell (p := ⟨bb, o + n * 5 + 3, none⟩) (show bb < W.heap.size by omega)).trans d3, by have := h1.size; omega⟩
  have HKD : Hid (∀ w, Below (W.heap.size + 1) W1 w → ∀ i : Nat, i ≤ 17592186044416 → Calls Tryz.prog 111 #[.agg #[.slice (some ⟨bb, o, none⟩) l.length cap], .int .i64 (n : Int), .int .i64 (i : Int)] w (KidQ (kidN l n i) M w)) := fun w hw i hi =>
    kid_any w M _ l n i ((unhide HN).keep (unhide HK w hw).1 hM) (by have := (unhide HK w hw).2.2; omega) hn hi
  have HLQ := hide hLq
  have HLK : Hid (∀ w, Below W.heap.size W w → KidsAt w W.heap.size la L) := fun w hw => hL.keep hw (Nat.le_refl _)
  obtain ⟨nk, hnk⟩ : ∃ nk, (nd l n).kids.length = nk := ⟨_, rfl⟩
  obtain ⟨m, hm⟩ : ∃ m, L.length = m := ⟨_, rfl⟩
  have HR : Hid (rowR l n L = ((nk == m) && rowU l n L m)) := by show rowR l n L = _; rw [rowR, hnk, hm]
  rw [hm] at hLl hLc ⊢
  rw [hnk] at HD hkk
  have HMM := hide hm
  have HW1 := hide hW1
  have HB0 : Hid (Below (W.heap.size + 1) W1 W1) := Below.refl _ _
  obtain ⟨d3', hbw'⟩ := unhide HD _ (unhide HB0)
  obtain ⟨k1, k2, k3⟩ := unhide HK _ (unhide HB0)
  have HK1 := hide k1
  clear hN d3 hK hnk hkc hkm hL hLq hm
  by_cases hnm : nk = m
  case neg =>
    have h1 : ¬ (nk : Int) = (m : Int) := by omega
    have HF : Hid (rowR l n L = false) := by show rowR l n L = false; rw [unhide HR]; simp [hnm]
    clear hnm
    go_enter Tryz.func109, Tryz.ntmps109
    go_wp2
    go_ret
    exact ⟨ret_b (unhide HF).symm, unhide HK1⟩
  subst hnm
  have HR2 : Hid (rowR l n L = rowU l n L nk) := by show rowR l n L = _; rw [unhide HR]; simp
  go_enter Tryz.func109, Tryz.ntmps109
  go_wp2
  clear d3' hbw' hW1 k1 k2 k3
  go_loopw [7] (fun t wr => ∃ i : Nat, i ≤ nk ∧ t = .int .i64 (i : Int) ∧ rowU l n L i = true ∧ Below (W.heap.size + 1) W1 wr) (fun t _ => nk - (intOf t).toNat)
  case atStart => exact ⟨0, Nat.zero_le _, rfl, rfl, unhide HB0⟩
  case round =>
    obtain ⟨i, hil, rfl, hu, hBr⟩ := hrel
    obtain ⟨r1, r2, r3⟩ := unhide HK wr hBr
    have HU := hide hu
    clear hu
    by_cases hlt : i < nk
    case neg =>
      have hlt2 : ¬ (i : Int) < nk := by omega
      obtain rfl : i = nk := by omega
      go_wp2
      go_ret
      exact ⟨ret_b (by rw [unhide HR2, unhide HU]), r1⟩
    have hlt2 : (i : Int) < nk := by omega
    have hi0 : (0 : Int) ≤ (i : Int) := by omega
    have HC := hide (unhide HKD wr hBr i (by omega))
    obtain ⟨x, hx⟩ : ∃ x, kidN l n i = x := ⟨_, rfl⟩
    rw [hx] at HC
    obtain ⟨q, hq⟩ : ∃ q, L.getD i 0 = q := ⟨_, rfl⟩
    have hqb : -2000 ≤ q ∧ q ≤ 2000 := by
      refine unhide HLQ q ?_
      have h1 := unhide HMM
      rw [← hq, List.getD_eq_getElem?_getD, List.getElem?_eq_getElem (by omega)]
      exact List.getElem_mem _
    have HS : Hid (rowU l n L (i + 1) = plR q x) := by
      show (rowU l n L i && plR (L.getD i 0) (kidN l n i)) = _
      rw [unhide HU, hx, hq]; rfl
    obtain ⟨lb, lo, hla, hlb, HLB⟩ : ∃ lb lo, la = some ⟨lb, lo, none⟩ ∧ lb < W.heap.size ∧ Hid (∀ w, Below W.heap.size W w → w.cell? ⟨lb, lo + i, none⟩ = some (.int .i64 q)) := by
      rcases unhide HLK W (Below.refl _ _) with h | ⟨lb, lo, h1, h2, h3⟩
      · have := unhide HMM; rw [h] at this; simp at this; omega
      · refine ⟨lb, lo, h1, h2, fun w hw => ?_⟩
        rw [hw.cell (p := ⟨lb, lo + i, none⟩) h2, h3 i (by rw [unhide HMM]; exact hlt), hq]
    subst hla
    have HX := hide hx
    clear hx hq
    go_wp2_with (go_at_call 111; refine (unhide HC).mono ?_; rintro e w2 ⟨a2, c2, he, _, _, _, hB2⟩; simp only [ndV] at he; subst he; have hz2 := hB2.size)
    obtain ⟨W2, hW2⟩ : ∃ W2, w2.alloc (.cells #[.int .i64 x.kind, .string x.text, .int .i64 x.num, .slice a2 x.kids.length c2, .int .i64 x.at'] 41) = W2 := ⟨_, rfl⟩
    have hr2 : W2.heap[w2.heap.size]? = some (.cells #[.int .i64 x.kind, .string x.text, .int .i64 x.num, .slice a2 x.kids.length c2, .int .i64 x.at'] 41) := by rw [← hW2]; exact World.alloc_heap_new w2 _
    have hzz2 : W2.heap.size = w2.heap.size + 1 := by rw [← hW2]; simp
    have hBW2 : Below (W.heap.size + 1) W1 W2 := by rw [← hW2]; exact (hBr.trans (hB2.mono (by omega))).alloc (by omega) _
    rw [hW2]
    clear hW2
    have HCL : Hid (∀ w', Below (w2.heap.size + 1) W2 w' → W2.heap.size ≤ w'.heap.size ∧ Below W.heap.size W w' ∧ w'.heap[w2.heap.size]? = some (.cells #[.int .i64 x.kind, .string x.text, .int .i64 x.num, .slice a2 x.kids.length c2, .int .i64 x.at'] 41) ∧ w'.cell? ⟨lb, lo + i, none⟩ = some (.int .i64 q) ∧ Below (W.heap.size + 1) W1 w' ∧ lb < w'.heap.size) := fun w' hw => by
      have h3 : Below (W.heap.size + 1) W1 w' := hBW2.trans (hw.mono (by omega))
      have h4 := (unhide HK w' h3).1
      exact ⟨hw.size, h4, (hw.block _ (by omega)).trans hr2, unhide HLB w' h4, h3, by have := h4.size; omega⟩
    have HIS : Hid (∀ z w', Below (w2.heap.size + 1) W2 w' → Calls Tryz.prog 145 #[.agg #[.int .i64 x.kind, .string x.text, .int .i64 x.num, .slice a2 x.kids.length c2, .int .i64 x.at'], .int .i64 z] w' fun e w3 => e = .returned (.bool (isW z x.kind x.num)) ∧ Below (w2.heap.size + 1) W2 w3) := fun z w' hw => (is_any z x a2 c2 w').mono fun e w3 h => ⟨h.1, hw.trans (h.2.mono (by have := hw.size; omega))⟩
    have hB2z : w2.heap.size + 1 ≤ W2.heap.size := Nat.le_of_eq hzz2.symm
    refine region_C (C := fun w' => Below (w2.heap.size + 1) W2 w') (by kernel_rfl) (by kernel_rfl) (Below.refl _ _).drew ?_
    by_cases hq0 : q < 0
    · have hd0 : decide (q < 0) = true := by simpa using hq0
      have hd1 : decide (q ≤ 0) = true := by simp; omega
      cases hk1 : (x.kind == 1) with
      | true =>
        have HPL : Hid (plR q x = true) := by show plR q x = true; simp [plR, hq0, hk1]
        repeat (first
          | go_big_quiet_skip
          | (go_big_quiet_want
             go_big_quiet_op
             first
               | go_big_quiet_on
               | (apply Exists.intro
                  refine ⟨fun w hw => ?_, ?_⟩
                  first
                    | rfl
                    | (obtain ⟨hsz, hBw, hr, e1, e2, e3⟩ := unhide HCL w hw
                       obtain ⟨g0, g1, g2, g3, g4⟩ := rcells5 hr
                       go_simp
                       first | done | rfl | exact ⟨rfl, rfl⟩)
                  go_big_quiet_on)))
        refine wpQuiet_nil ?_
        intro w5 hw5
        obtain ⟨z1, z2, z3, z4, z5, z6⟩ := unhide HCL w5 hw5
        go_wp2
        exact ⟨⟨i + 1, by omega, by go_num, by rw [unhide HS, unhide HPL], z5⟩, by simp [intOf]; omega⟩
      | false =>
        cases hiw : isW (-q) x.kind x.num with
        | true =>
          have HPL : Hid (plR q x = true) := by show plR q x = true; simp [plR, hq0, hiw]
          have HI := hide (unhide HIS (-q))
          rw [hiw] at HI
          clear hiw
          repeat (first
            | go_big_quiet_skip
            | (go_big_quiet_want
               go_big_quiet_op
               first
                 | go_big_quiet_on
                 | (apply Exists.intro
                    refine ⟨fun w hw => ?_, ?_⟩
                    first
                      | rfl
                      | exact unhide HI w hw
                      | (obtain ⟨hsz, hBw, hr, e1, e2, e3⟩ := unhide HCL w hw
                         obtain ⟨g0, g1, g2, g3, g4⟩ := rcells5 hr
                         go_simp
                         first | done | rfl | exact ⟨rfl, rfl⟩)
                    go_big_quiet_on)))
          refine wpQuiet_nil ?_
          intro w5 hw5
          obtain ⟨z1, z2, z3, z4, z5, z6⟩ := unhide HCL w5 hw5
          go_wp2
          exact ⟨⟨i + 1, by omega, by go_num, by rw [unhide HS, unhide HPL], z5⟩, by simp [intOf]; omega⟩
        | false =>
          have HPL : Hid (plR q x = false) := by show plR q x = false; simp [plR, hq0, hk1, hiw]
          have HF : Hid (rowU l n L nk = false) := rowU_le (i := i + 1) (by rw [unhide HS, unhide HPL]) (by omega)
          have HI := hide (unhide HIS (-q))
          rw [hiw] at HI
          clear hiw
          repeat (first
            | go_big_quiet_skip
            | (go_big_quiet_want
               go_big_quiet_op
               first
                 | go_big_quiet_on
                 | (apply Exists.intro
                    refine ⟨fun w hw => ?_, ?_⟩
                    first
                      | rfl
                      | exact unhide HI w hw
                      | (obtain ⟨hsz, hBw, hr, e1, e2, e3⟩ := unhide HCL w hw
                         obtain ⟨g0, g1, g2, g3, g4⟩ := rcells5 hr
                         go_simp
                         first | done | rfl | exact ⟨rfl, rfl⟩)
                    go_big_quiet_on)))
          refine wpQuiet_nil ?_
          intro w5 hw5
          obtain ⟨z1, z2, z3, z4, z5, z6⟩ := unhide HCL w5 hw5
          go_wp2
          refine region_C (C := fun w' => Below (w2.heap.size + 1) W2 w') (by kernel_rfl) (by kernel_rfl) hw5.drew ?_
          repeat (first
            | go_big_quiet_skip
            | (go_big_quiet_want
               go_big_quiet_op
               first
                 | go_big_quiet_on
                 | (apply Exists.intro
                    refine ⟨fun w hw => ?_, ?_⟩
                    first
                      | rfl
                      | (obtain ⟨hsz, hBw, hr, e1, e2, e3⟩ := unhide HCL w hw
                         obtain ⟨g0, g1, g2, g3, g4⟩ := rcells5 hr
                         go_simp
                         first | done | rfl | exact ⟨rfl, rfl⟩)
                    go_big_quiet_on)))
          refine wpQuiet_nil ?_
          intro w6 hw6
          obtain ⟨z1, z2, z3, z4, z5, z6⟩ := unhide HCL w6 hw6
          go_wp2
          go_ret
          exact ⟨ret_b (by rw [unhide HR2, unhide HF]), z2⟩
    · have hd0 : decide (q < 0) = false := by simpa using hq0
      by_cases hq1 : q ≤ 0
      · have hd1 : decide (q ≤ 0) = true := by simpa using hq1
        have HPL : Hid (plR q x = false) := by show plR q x = false; simp [plR, hq0, hq1]
        have HF : Hid (rowU l n L nk = false) := rowU_le (i := i + 1) (by rw [unhide HS, unhide HPL]) (by omega)
        repeat (first
          | go_big_quiet_skip
          | (go_big_quiet_want
             go_big_quiet_op
             first
               | go_big_quiet_on
               | (apply Exists.intro
                  refine ⟨fun w hw => ?_, ?_⟩
                  first
                    | rfl
                    | (obtain ⟨hsz, hBw, hr, e1, e2, e3⟩ := unhide HCL w hw
                       obtain ⟨g0, g1, g2, g3, g4⟩ := rcells5 hr
                       go_simp
                       first | done | rfl | exact ⟨rfl, rfl⟩)
                  go_big_quiet_on)))
        refine wpQuiet_nil ?_
        intro w5 hw5
        obtain ⟨z1, z2, z3, z4, z5, z6⟩ := unhide HCL w5 hw5
        go_wp2
        refine region_C (C := fun w' => Below (w2.heap.size + 1) W2 w') (by kernel_rfl) (by kernel_rfl) hw5.drew ?_
        repeat (first
          | go_big_quiet_skip
          | (go_big_quiet_want
             go_big_quiet_op
             first
               | go_big_quiet_on
               | (apply Exists.intro
                  refine ⟨fun w hw => ?_, ?_⟩
                  first
                    | rfl
                    | (obtain ⟨hsz, hBw, hr, e1, e2, e3⟩ := unhide HCL w hw
                       obtain ⟨g0, g1, g2, g3, g4⟩ := rcells5 hr
                       go_simp
                       first | done | rfl | exact ⟨rfl, rfl⟩)
                  go_big_quiet_on)))
        refine wpQuiet_nil ?_
        intro w6 hw6
        obtain ⟨z1, z2, z3, z4, z5, z6⟩ := unhide HCL w6 hw6
        go_wp2
        go_ret
        exact ⟨ret_b (by rw [unhide HR2, unhide HF]), z2⟩
      · have hd1 : decide (q ≤ 0) = false := by simpa using hq1
        cases hiw : isW q x.kind x.num with
        | true =>
          have HPL : Hid (plR q x = true) := by show plR q x = true; simp [plR, hq0, hq1, hiw]
          have HI := hide (unhide HIS q)
          rw [hiw] at HI
          clear hiw
          repeat (first
            | go_big_quiet_skip
            | (go_big_quiet_want
               go_big_quiet_op
               first
                 | go_big_quiet_on
                 | (apply Exists.intro
                    refine ⟨fun w hw => ?_, ?_⟩
                    first
                      | rfl
                      | (obtain ⟨hsz, hBw, hr, e1, e2, e3⟩ := unhide HCL w hw
                         obtain ⟨g0, g1, g2, g3, g4⟩ := rcells5 hr
                         go_simp
                         first | done | rfl | exact ⟨rfl, rfl⟩)
                    go_big_quiet_on)))
          refine wpQuiet_nil ?_
          intro w5 hw5
          obtain ⟨z1, z2, z3, z4, z5, z6⟩ := unhide HCL w5 hw5
          go_wp2
          refine region_C (C := fun w' => Below (w2.heap.size + 1) W2 w') (by kernel_rfl) (by kernel_rfl) hw5.drew ?_
          repeat (first
            | go_big_quiet_skip
            | (go_big_quiet_want
               go_big_quiet_op
               first
                 | go_big_quiet_on
                 | (apply Exists.intro
                    refine ⟨fun w hw => ?_, ?_⟩
                    first
                      | rfl
                      | exact unhide HI w hw
                      | (obtain ⟨hsz, hBw, hr, e1, e2, e3⟩ := unhide HCL w hw
                         obtain ⟨g0, g1, g2, g3, g4⟩ := rcells5 hr
                         go_simp
                         first | done | rfl | exact ⟨rfl, rfl⟩)
                    go_big_quiet_on)))
          refine wpQuiet_nil ?_
          intro w6 hw6
          obtain ⟨z1, z2, z3, z4, z5, z6⟩ := unhide HCL w6 hw6
          go_wp2
          exact ⟨⟨i + 1, by omega, by go_num, by rw [unhide HS, unhide HPL], z5⟩, by simp [intOf]; omega⟩
        | false =>
          have HPL : Hid (plR q x = false) := by show plR q x = false; simp [plR, hq0, hq1, hiw]
          have HF : Hid (rowU l n L nk = false) := rowU_le (i := i + 1) (by rw [unhide HS, unhide HPL]) (by omega)
          have HI := hide (unhide HIS q)
          rw [hiw] at HI
          clear hiw
          repeat (first
            | go_big_quiet_skip
            | (go_big_quiet_want
               go_big_quiet_op
               first
                 | go_big_quiet_on
                 | (apply Exists.intro
                    refine ⟨fun w hw => ?_, ?_⟩
                    first
                      | rfl
                      | (obtain ⟨hsz, hBw, hr, e1, e2, e3⟩ := unhide HCL w hw
                         obtain ⟨g0, g1, g2, g3, g4⟩ := rcells5 hr
                         go_simp
                         first | done | rfl | exact ⟨rfl, rfl⟩)
                    go_big_quiet_on)))
          refine wpQuiet_nil ?_
          intro w5 hw5
          obtain ⟨z1, z2, z3, z4, z5, z6⟩ := unhide HCL w5 hw5
          go_wp2
          refine region_C (C := fun w' => Below (w2.heap.size + 1) W2 w') (by kernel_rfl) (by kernel_rfl) hw5.drew ?_
          repeat (first
            | go_big_quiet_skip
            | (go_big_quiet_want
               go_big_quiet_op
               first
                 | go_big_quiet_on
                 | (apply Exists.intro
                    refine ⟨fun w hw => ?_, ?_⟩
                    first
                      | rfl
                      | exact unhide HI w hw
                      | (obtain ⟨hsz, hBw, hr, e1, e2, e3⟩ := unhide HCL w hw
                         obtain ⟨g0, g1, g2, g3, g4⟩ := rcells5 hr
                         go_simp
                         first | done | rfl | exact ⟨rfl, rfl⟩)
                    go_big_quiet_on)))
          refine wpQuiet_nil ?_
          intro w6 hw6
          obtain ⟨z1, z2, z3, z4, z5, z6⟩ := unhide HCL w6 hw6
          go_wp2
          go_ret
          exact ⟨ret_b (by rw [unhide HR2, unhide HF]), z2⟩
end Go.Proofs.YtnnpkomedpjlcaaGreatDoor

/- The reference's named, ctors, exported, function. -/
namespace Go.Proofs.YtnnpkomedpjlcaaGreatDoor
set_option linter.unusedSimpArgs false
set_option linter.unusedVariables false
open Go.RowKit

set_option maxRecDepth 100000 in
set_option maxHeartbeats 2000000 in
theorem exported_any (x : Nd) (a : Option Addr) (c : Nat) (W : World) : Calls Tryz.prog 115 #[ndV x a c] W fun e w' => e = .returned (.bool (exptR x)) ∧ Below W.heap.size W w' := by
  obtain ⟨kd, tx, nm, ks, at'⟩ := x
  simp only [ndV]
  have hB1 : Below W.heap.size W (W.alloc (.cells #[.int .i64 kd, .string tx, .int .i64 nm, .slice a ks.length c, .int .i64 at'] 41)) := (Below.refl _ W).alloc (Nat.le_refl _) _
  by_cases h0 : kd ∈ ([40, 41, 42, 47, 49, 51, 52] : List Int)
  · simp only [List.mem_cons, List.not_mem_nil, or_false] at h0
    rcases h0 with rfl | rfl | rfl | rfl | rfl | rfl | rfl
    · have HR : Hid (exptR ⟨40, tx, nm, ks, at'⟩ = (nm == 1)) := by show exptR ⟨40, tx, nm, ks, at'⟩ = _; simp [exptR]
      cases e1 : (nm == 1) <;> (
        go_enter Tryz.func115, Tryz.ntmps115
        go_wp2
        go_ret
        exact ⟨ret_b (by rw [unhide HR, e1]), hB1⟩)
    · go_enter Tryz.func115, Tryz.ntmps115
      go_wp2
      go_ret
      exact ⟨rfl, hB1⟩
    · go_enter Tryz.func115, Tryz.ntmps115
      go_wp2
      go_ret
      exact ⟨rfl, hB1⟩
    · have HR : Hid (exptR ⟨47, tx, nm, ks, at'⟩ = !(nm == 1)) := by show exptR ⟨47, tx, nm, ks, at'⟩ = _; simp [exptR]
      cases e1 : (nm == 1) <;> (
        go_enter Tryz.func115, Tryz.ntmps115
        go_wp2
        go_ret
        first | exact ⟨ret_b (by rw [unhide HR, e1]; rfl), hB1⟩ | exact ⟨ret_b (by rw [unhide HR, e1]; simpa using e1), hB1⟩)
    · go_enter Tryz.func115, Tryz.ntmps115
      go_wp2
      go_ret
      exact ⟨rfl, hB1⟩
    · go_enter Tryz.func115, Tryz.ntmps115
      go_wp2
      go_ret
      exact ⟨rfl, hB1⟩
    · go_enter Tryz.func115, Tryz.ntmps115
      go_wp2
      go_ret
      exact ⟨rfl, hB1⟩
  · have HR : Hid (exptR ⟨kd, tx, nm, ks, at'⟩ = false) := by
      show exptR ⟨kd, tx, nm, ks, at'⟩ = false
      simp only [List.mem_cons, List.not_mem_nil, or_false, not_or] at h0
      simp [exptR, h0]
    simp only [List.mem_cons, List.not_mem_nil, or_false, not_or] at h0
    obtain ⟨q0, q1, q2, q3, q4, q5, q6⟩ := h0
    have e0 : (kd == 40) = false := by simpa using q0
    have e1 : (kd == 41) = false := by simpa using q1
    have e2 : (kd == 42) = false := by simpa using q2
    have e3 : (kd == 47) = false := by simpa using q3
    have e4 : (kd == 49) = false := by simpa using q4
    have e5 : (kd == 51) = false := by simpa using q5
    have e6 : (kd == 52) = false := by simpa using q6
    clear q0 q1 q2 q3 q4 q5 q6
    go_enter Tryz.func115, Tryz.ntmps115
    go_wp2
    go_ret
    exact ⟨ret_b (unhide HR).symm, hB1⟩

set_option maxRecDepth 100000 in
set_option maxHeartbeats 4000000 in
theorem named_any (W : World) (M : Nat) (v : Value) (l : List Nd) (k0 : Int) (hN : Nodes W M v l) (hM : M ≤ W.heap.size) :
    Calls Tryz.prog 112 #[.agg #[v], .int .i64 k0] W fun e w' => e = .returned (.bool (namedR l (l.length + 1) k0)) ∧ Below W.heap.size W w' := by
  obtain ⟨W1, hW1⟩ : ∃ W1, W.alloc (.cells #[v] 24) = W1 := ⟨_, rfl⟩
  have HK : Hid (∀ w, Below (W.heap.size + 1) W1 w → _) := fun w hw => rbox_at (v := v) (by rw [hW1]; exact hw)
  have hz1 : W1.heap.size = W.heap.size + 1 := by rw [← hW1]; simp
  have HN := hide hN
  have hl1 := hN.1
  obtain ⟨va, vc, rfl, hvc, _⟩ := hN.len
  have HB0 : Hid (Below (W.heap.size + 1) W1 W1) := Below.refl _ _
  obtain ⟨k1, k2, k3⟩ := unhide HK _ (unhide HB0)
  clear hN
  go_enter Tryz.func112, Tryz.ntmps112
  go_wp2
  clear hW1 k1 k2 k3
  go_loopw [1, 5] (fun t1 t5 wr => ∃ (i : Nat) (k : Int), i ≤ l.length + 1 ∧ t5 = .int .i64 (i : Int) ∧ t1 = .int .i64 k ∧ namedR l (l.length + 1) k0 = namedR l (l.length + 1 - i) k ∧ Below (W.heap.size + 1) W1 wr) (fun _ t5 _ => l.length + 1 - (intOf t5).toNat)
  case atStart => exact ⟨0, k0, Nat.zero_le _, rfl, rfl, rfl, unhide HB0⟩
  case round =>
    obtain ⟨i, k, hil, rfl, rfl, hu, hBr⟩ := hrel
    obtain ⟨r1, r2, r3⟩ := unhide HK wr hBr
    have HU := hide hu
    clear hu
    by_cases hlt : i ≤ l.length
    case neg =>
      have hlt2 : ¬ (i : Int) ≤ l.length := by omega
      have HF : Hid (namedR l (l.length + 1) k0 = false) := by show namedR l (l.length + 1) k0 = false; rw [unhide HU, show l.length + 1 - i = 0 by omega]; rfl
      go_wp2
      go_ret
      exact ⟨ret_b (unhide HF).symm, r1⟩
    have hlt2 : (i : Int) ≤ l.length := by omega
    have HS : Hid (namedR l (l.length + 1) k0 = (ins l k && ((nd l k.toNat).kind == 17 || ((nd l k.toNat).kind == 29 && (nd l k.toNat).kids.length == 1 && namedR l (l.length + 1 - (i + 1)) ((nd l k.toNat).kids.getD 0 0))))) := by
      show namedR l (l.length + 1) k0 = _
      rw [unhide HU, show l.length + 1 - i = (l.length + 1 - (i + 1)) + 1 by omega]; rfl
    by_cases hk0 : 0 ≤ k
    case neg =>
      have HF : Hid (namedR l (l.length + 1) k0 = false) := by show namedR l (l.length + 1) k0 = false; rw [unhide HS, show ins l k = false from ins_false.2 (by omega)]; rfl
      go_wp2
      go_ret
      exact ⟨ret_b (unhide HF).symm, r1⟩
    by_cases hk1 : k < l.length
    case neg =>
      have HF : Hid (namedR l (l.length + 1) k0 = false) := by show namedR l (l.length + 1) k0 = false; rw [unhide HS, show ins l k = false from ins_false.2 (by omega)]; rfl
      go_wp2
      go_ret
      exact ⟨ret_b (unhide HF).symm, r1⟩
    obtain ⟨m, hm⟩ : ∃ m : Nat, k = (m : Int) := ⟨k.toNat, by omega⟩
    have hml : m < l.length := by omega
    have hin : ins l k = true := ins_iff'.2 ⟨hk0, hk1⟩
    obtain ⟨b3, o3, cap3, qa, qc, hv, _, _, hb3, e0, e1, e2, e3, e4, hqc, hqm, hQ⟩ := ((unhide HN).keep r1 hM).at hml
    obtain ⟨hva, hvc3⟩ : va = some ⟨b3, o3, none⟩ ∧ vc = cap3 := by injection hv with h1 _ h3; exact ⟨h1, h3⟩
    have hbw3 : b3 < wr.heap.size := by have := r1.size; omega
    have hlk : (nd l m).kids.length ≤ 17592186044416 := ((unhide HN).2.1 m hml).2
    obtain ⟨y, hy⟩ : ∃ y, nd l m = y := ⟨_, rfl⟩
    have HS2 : Hid (namedR l (l.length + 1) k0 = (y.kind == 17 || (y.kind == 29 && y.kids.length == 1 && namedR l (l.length + 1 - (i + 1)) (y.kids.getD 0 0)))) := by
      show namedR l (l.length + 1) k0 = _
      rw [unhide HS, hin, hm, Int.toNat_natCast, hy]; rfl
    rw [hy] at e0 e1 e2 e3 e4 hQ hlk
    obtain ⟨kd, tx, nm, ks, at'⟩ := y
    simp only at e0 e1 e2 e3 e4 hQ hlk HS2
    rw [hva] at r2
    have HVA := hide hva
    have HBB : Hid (Below (W.heap.size + 1) W1 (wr.alloc (.cells #[.int .i64 kd, .string tx, .int .i64 nm, .slice qa ks.length qc, .int .i64 at'] 41))) := hBr.alloc (by omega) _
    have HB1 : Hid (Below W.heap.size W (wr.alloc (.cells #[.int .i64 kd, .string tx, .int .i64 nm, .slice qa ks.length qc, .int .i64 at'] 41))) := r1.alloc r1.size _
    subst hm
    clear hy hin hva hv HS
    by_cases h17 : kd = 17
    · subst h17
      have HF : Hid (namedR l (l.length + 1) k0 = true) := by show namedR l (l.length + 1) k0 = true; rw [unhide HS2]; rfl
      go_wp2
      go_ret
      exact ⟨ret_b (unhide HF).symm, unhide HB1⟩
    have q17 : (kd == 17) = false := by simpa using h17
    by_cases h29 : kd = 29
    case neg =>
      have q29 : (kd == 29) = false := by simpa using h29
      have HF : Hid (namedR l (l.length + 1) k0 = false) := by show namedR l (l.length + 1) k0 = false; rw [unhide HS2, q17, q29]; rfl
      clear h17 h29
      go_wp2
      go_ret
      exact ⟨ret_b (unhide HF).symm, unhide HB1⟩
    subst h29
    by_cases hl : ks.length = 1
    case neg =>
      have hl2 : ¬ (ks.length : Int) = 1 := by omega
      have HF : Hid (namedR l (l.length + 1) k0 = false) := by
        show namedR l (l.length + 1) k0 = false
        rw [unhide HS2, show (ks.length == 1) = false by simpa using hl]; rfl
      clear hl
      go_wp2
      go_ret
      exact ⟨ret_b (unhide HF).symm, unhide HB1⟩
    obtain ⟨k', rfl⟩ : ∃ k', ks = [k'] := by
      match ks, hl with
      | [k'], _ => exact ⟨k', rfl⟩
    rcases hQ with h | ⟨kb, ko, rfl, hkb, hc⟩
    · cases h
    have dk : wr.cell? ⟨kb, ko, none⟩ = some (.int .i64 k') := hc 0 (by simp)
    have hkbw : kb < wr.heap.size := by have := r1.size; omega
    have HS3 : Hid (namedR l (l.length + 1) k0 = namedR l (l.length + 1 - (i + 1)) k') := by show namedR l (l.length + 1) k0 = _; rw [unhide HS2]; simp
    clear hc hl h17 q17
    go_wp2
    refine ⟨⟨i + 1, k', by omega, by go_num, rfl, unhide HS3, unhide HBB⟩, by simp [intOf]; omega⟩
end Go.Proofs.YtnnpkomedpjlcaaGreatDoor

/- The reference's row over a list that was just laid; where its functions over a node begin. -/
namespace Go.Proofs.YtnnpkomedpjlcaaGreatDoor
set_option linter.unusedSimpArgs false
set_option linter.unusedVariables false
open Go.RowKit

theorem kids_new (w : World) (L : List Int) (t : TypeId) : KidsAt (w.alloc (.cells (L.map (fun q => Value.int .i64 q)).toArray t)) (w.alloc (.cells (L.map (fun q => Value.int .i64 q)).toArray t)).heap.size (some ⟨w.heap.size, 0, none⟩) L := by
  refine .inr ⟨w.heap.size, 0, rfl, by simp, fun j hj => ?_⟩
  rw [Lib.cell_of_heap (rat_a1 w _)]
  simp [hj, List.getD_eq_getElem?_getD]
/-- row over a list that was just laid. -/
theorem row_lit (w : World) (M : Nat) (v : Value) (l : List Nd) (n : Nat) (L : List Int) (hN : Nodes w M v l) (hM : M ≤ w.heap.size) (hn : n < l.length) (hLl : L.length ≤ 100) (hLq : ∀ q ∈ L, -2000 ≤ q ∧ q ≤ 2000) (t : TypeId) :
    Calls Tryz.prog 109 #[.agg #[v], .int .i64 (n : Int), .slice (some ⟨w.heap.size, 0, none⟩) L.length L.length] (w.alloc (.cells (L.map (fun q => Value.int .i64 q)).toArray t)) fun e w' => e = .returned (.bool (rowR l n L)) ∧ Below w.heap.size w w' := by
  have hB : Below w.heap.size w (w.alloc (.cells (L.map (fun q => Value.int .i64 q)).toArray t)) := (Below.refl _ w).alloc (Nat.le_refl _) _
  have hz : (w.alloc (.cells (L.map (fun q => Value.int .i64 q)).toArray t)).heap.size = w.heap.size + 1 := by simp
  refine (row_any _ M v l n L _ L.length (hN.keep hB hM) (by omega) hn (kids_new w L t) hLl (Nat.le_refl _) (by unfold maxLen; omega) hLq).mono fun e w' h => ⟨h.1, hB.trans (h.2.mono (by omega))⟩

/-- What may be called behind the start. -/
structure Ref (N : Nat) (W0 : World) (M : Nat) (v : Value) (l : List Nd) (n : Nat) : Prop where
  row : ∀ w, Below N W0 w → ∀ (L : List Int), L.length ≤ 100 → (∀ q ∈ L, -2000 ≤ q ∧ q ≤ 2000) → Calls Tryz.prog 109 #[.agg #[v], .int .i64 (n : Int), .slice (some ⟨w.heap.size, 0, none⟩) L.length L.length] (w.alloc (.cells (L.map (fun q => Value.int .i64 q)).toArray 3)) fun e w' => e = .returned (.bool (rowR l n L)) ∧ Below N W0 w'
  list : ∀ w, Below N W0 w → ∀ (i : Nat) (q : Int), i ≤ 17592186044416 → Calls Tryz.prog 108 #[.agg #[v], .int .i64 (n : Int), .int .i64 (i : Int), .int .i64 q] w fun e w' => e = .returned (.bool (listR l n i q)) ∧ Below N W0 w'
  each : ∀ w, Below N W0 w → ∀ (a b : Int), Calls Tryz.prog 110 #[.agg #[v], .int .i64 (n : Int), .int .i64 a, .int .i64 b] w fun e w' => e = .returned (.bool (eachU l n a b (nd l n).kids.length)) ∧ Below N W0 w'
  kid : ∀ w, Below N W0 w → ∀ (i : Nat), i ≤ 17592186044416 → Calls Tryz.prog 111 #[.agg #[v], .int .i64 (n : Int), .int .i64 (i : Int)] w fun e w' => ∃ a c, e = .returned (ndV (kidN l n i) a c) ∧ KidsAt w' M a (kidN l n i).kids ∧ (kidN l n i).kids.length ≤ c ∧ c ≤ maxLen ∧ Below N W0 w'
  named : ∀ w, Below N W0 w → ∀ (k : Int), Calls Tryz.prog 112 #[.agg #[v], .int .i64 k] w fun e w' => e = .returned (.bool (namedR l (l.length + 1) k)) ∧ Below N W0 w'
theorem ref_of {N : Nat} {W W0 : World} {M : Nat} {v : Value} {l : List Nd} {n : Nat} (hN : Nodes W M v l) (hM : M ≤ W.heap.size) (hn : n < l.length) (hW : Below W.heap.size W W0) (hNN : W.heap.size ≤ N) (hN0 : N ≤ W0.heap.size) : Ref N W0 M v l n where
  row := fun w hw L h1 h2 => by
    have h3 := hW.trans (hw.mono hNN)
    have h4 := hw.size
    exact (row_lit w M v l n L (hN.keep h3 hM) (Nat.le_trans hM h3.size) hn h1 h2 3).mono fun e w' h => ⟨h.1, hw.trans (h.2.mono (by omega))⟩
  list := fun w hw i q hi => by
    have h3 := hW.trans (hw.mono hNN)
    have h4 := hw.size
    exact (list_any w M v l n i q (hN.keep h3 hM) (Nat.le_trans hM h3.size) hn hi).mono fun e w' h => ⟨h.1, hw.trans (h.2.mono (by omega))⟩
  each := fun w hw a b => by
    have h3 := hW.trans (hw.mono hNN)
    have h4 := hw.size
    exact (each_any w M v l n a b (hN.keep h3 hM) (Nat.le_trans hM h3.size) hn).mono fun e w' h => ⟨h.1, hw.trans (h.2.mono (by omega))⟩
  kid := fun w hw i hi => by
    have h3 := hW.trans (hw.mono hNN)
    have h4 := hw.size
    exact (kid_any w M v l n i (hN.keep h3 hM) (Nat.le_trans hM h3.size) hn hi).mono fun e w' h => by
      obtain ⟨a, c, h1, h2, h5, h6, h7⟩ := h
      exact ⟨a, c, h1, h6.keep h7 (Nat.le_trans hM h3.size), h2, h5, hw.trans (h7.mono (by omega))⟩
  named := fun w hw k => by
    have h3 := hW.trans (hw.mono hNN)
    have h4 := hw.size
    exact (named_any w M v l k (hN.keep h3 hM) (Nat.le_trans hM h3.size)).mono fun e w' h => ⟨h.1, hw.trans (h.2.mono (by omega))⟩

/-- Where a function over a node begins: the box of the tree, the box of the node. -/
theorem arm_start (W : World) (M : Nat) (v : Value) (l : List Nd) (n : Nat) (hN : Nodes W M v l) (hM : M ≤ W.heap.size) (hn : n < l.length) :
    ∃ bb o cap ka kc W1 W2, v = .slice (some ⟨bb, o, none⟩) l.length cap ∧ W.alloc (.cells #[v] 24) = W1 ∧ W1.alloc (.cells #[.int .i64 (nd l n).kind, .string (nd l n).text, .int .i64 (nd l n).num, .slice ka (nd l n).kids.length kc, .int .i64 (nd l n).at'] 41) = W2 ∧
      l.length ≤ cap ∧ cap ≤ maxLen ∧ l.length ≤ 2199023255552 ∧ (nd l n).kids.length ≤ 17592186044416 ∧ KidsAt W M ka (nd l n).kids ∧ (nd l n).kids.length ≤ kc ∧ kc ≤ maxLen ∧
      (W1.cell? ⟨W.heap.size, 0, none⟩ = some v ∧ W1.cell? ⟨bb, o + n * 5, none⟩ = some (.int .i64 (nd l n).kind) ∧ W1.cell? ⟨bb, o + n * 5 + 1, none⟩ = some (.string (nd l n).text) ∧ W1.cell? ⟨bb, o + n * 5 + 2, none⟩ = some (.int .i64 (nd l n).num) ∧ W1.cell? ⟨bb, o + n * 5 + 3, none⟩ = some (.slice ka (nd l n).kids.length kc) ∧ W1.cell? ⟨bb, o + n * 5 + 4, none⟩ = some (.int .i64 (nd l n).at') ∧ W.heap.size < W1.heap.size ∧ bb < W1.heap.size) ∧
      Hid (∀ w, Below W2.heap.size W2 w → Below W.heap.size W w ∧ w.cell? ⟨W.heap.size, 0, none⟩ = some v ∧ w.cell? ⟨W1.heap.size, 0, none⟩ = some (.int .i64 (nd l n).kind) ∧ w.cell? ⟨W1.heap.size, 3, none⟩ = some (.slice ka (nd l n).kids.length kc) ∧ W.heap.size < w.heap.size ∧ W1.heap.size < w.heap.size) ∧
      Hid (Ref W2.heap.size W2 M v l n) ∧ Hid (Below W2.heap.size W2 W2) := by
  obtain ⟨bb, o, cap, ka, kc, hv, hc1, hc2, hb, d0, d1, d2, d3, d4, hkc, hkm, hK⟩ := hN.at hn
  obtain ⟨W1, hW1⟩ : ∃ W1, W.alloc (.cells #[v] 24) = W1 := ⟨_, rfl⟩
  obtain ⟨W2, hW2⟩ : ∃ W2, W1.alloc (.cells #[.int .i64 (nd l n).kind, .string (nd l n).text, .int .i64 (nd l n).num, .slice ka (nd l n).kids.length kc, .int .i64 (nd l n).at'] 41) = W2 := ⟨_, rfl⟩
  have hB1 : Below W.heap.size W W1 := by rw [← hW1]; exact (Below.refl _ W).alloc (Nat.le_refl _) _
  have hz1 : W1.heap.size = W.heap.size + 1 := by rw [← hW1]; simp
  have hz2 : W2.heap.size = W1.heap.size + 1 := by rw [← hW2]; simp
  have hB2 : Below W1.heap.size W1 W2 := by rw [← hW2]; exact (Below.refl _ W1).alloc (Nat.le_refl _) _
  have hB : Below W.heap.size W W2 := hB1.trans (hB2.mono (by omega))
  have hbW : bb < W.heap.size := by omega
  have c1 : W1.heap[W.heap.size]? = some (.cells #[v] 24) := by rw [← hW1]; exact rat_a1 W _
  have c2 : W2.heap[W1.heap.size]? = some (.cells #[.int .i64 (nd l n).kind, .string (nd l n).text, .int .i64 (nd l n).num, .slice ka (nd l n).kids.length kc, .int .i64 (nd l n).at'] 41) := by rw [← hW2]; exact rat_a1 W1 _
  refine ⟨bb, o, cap, ka, kc, W1, W2, hv, hW1, hW2, hc1, hc2, hN.1, (hN.2.1 n hn).2, hK, hkc, hkm, ⟨by rw [Lib.cell_of_heap c1]; rfl, (hB1.cell (p := ⟨bb, o + n * 5, none⟩) hbW).trans d0, (hB1.cell (p := ⟨bb, o + n * 5 + 1, none⟩) hbW).trans d1, (hB1.cell (p := ⟨bb, o + n * 5 + 2, none⟩) hbW).trans d2, (hB1.cell (p := ⟨bb, o + n * 5 + 3, none⟩) hbW).trans d3, (hB1.cell (p := ⟨bb, o + n * 5 + 4, none⟩) hbW).trans d4, by omega, by omega⟩, fun w hw => ?_, ref_of hN hM hn hB (by omega) (Nat.le_refl _), Below.refl _ _⟩
  have h1 : Below W.heap.size W w := hB.trans (hw.mono (by omega))
  have e2 := (hw.block W1.heap.size (by omega)).trans c2
  have e1 := (hw.block W.heap.size (by omega)).trans ((hB2.block W.heap.size (by omega)).trans c1)
  obtain ⟨y0, y1, y2, y3, y4⟩ := rcells5 e2
  refine ⟨h1, by rw [Lib.cell_of_heap e1]; rfl, y0, y3, by have := hw.size; omega, by have := hw.size; omega⟩
end Go.Proofs.YtnnpkomedpjlcaaGreatDoor

/- Fields of a node's value. -/
namespace Go.Proofs.YtnnpkomedpjlcaaGreatDoor
set_option linter.unusedSimpArgs false
set_option linter.unusedVariables false
open Go.RowKit
theorem fld0 (k : Int) (t : ByteArray) (m : Int) (a : Option Addr) (len c : Nat) (at' : Int) (w : World) : (Instr.field 41 (.agg #[.int .i64 k, .string t, .int .i64 m, .slice a len c, .int .i64 at']) 0).run Tryz.prog w = .ok (.int .i64 k) w := by kernel_rfl
theorem fld2 (k : Int) (t : ByteArray) (m : Int) (a : Option Addr) (len c : Nat) (at' : Int) (w : World) : (Instr.field 41 (.agg #[.int .i64 k, .string t, .int .i64 m, .slice a len c, .int .i64 at']) 2).run Tryz.prog w = .ok (.int .i64 m) w := by kernel_rfl
end Go.Proofs.YtnnpkomedpjlcaaGreatDoor

/- A region that draws its order, two of whose operations read, the third lays a row, and whose others are quiet behind it. -/
namespace Go.Proofs.YtnnpkomedpjlcaaGreatDoor
set_option linter.unusedSimpArgs false
set_option linter.unusedVariables false

theorem wpAnyH_of_quiet {P : Program} {ops : Array Oper} {md : Region.Mode} {C S : World → Prop} {Q : Act → Prop} {Q' : Exit → Act → World → Prop} (hQ : ∀ a w, C w → Q a → Q' .normal a w) (hS : ∀ w, C w → S w) : ∀ (fuel : Nat) (listed : Array Bool) (a : Act) (w : World), C w →
    wpAnyQ P md ops C Q fuel listed a → wpAnyH P md ops Q' S fuel listed a w
  | 0, _, _, _, hw, h => ⟨h.1, hQ _ _ hw h.2⟩
  | fuel + 1, _, _, _, hw, h => ⟨fun h0 => hQ _ _ hw (h.1 h0), fun i hi => wpOp_of_qOp hw (fun a' w' hw' h' => ⟨hS _ hw', wpAnyH_of_quiet hQ hS fuel _ a' w' hw' h'⟩) (h.2 i hi)⟩

theorem region_D {P : Program} {S C : World → Prop} {id : Nat} {Q : Exit → Act → World → Prop} {a : Act} {w w3 : World} {o0 o1 o2 : Oper} {r : List Oper} {v0 v1 v2 : Value}
    (hm : P.follows .mixedOrders = true) (hs : Region.noSelect (o0 :: o1 :: o2 :: r).toArray = true)
    (f0 : Region.free .any (o0 :: o1 :: o2 :: r).toArray (Array.replicate (o0 :: o1 :: o2 :: r).toArray.size false) 0 = true) (r0 : (Region.ready .any (o0 :: o1 :: o2 :: r).toArray (Array.replicate (o0 :: o1 :: o2 :: r).toArray.size false)).contains 0 = true)
    (f1 : Region.free .any (o0 :: o1 :: o2 :: r).toArray ((Array.replicate (o0 :: o1 :: o2 :: r).toArray.size false).setIfInBounds 0 true) 1 = true) (r1 : (Region.ready .any (o0 :: o1 :: o2 :: r).toArray ((Array.replicate (o0 :: o1 :: o2 :: r).toArray.size false).setIfInBounds 0 true)).contains 1 = true)
    (r2 : Region.ready .any (o0 :: o1 :: o2 :: r).toArray (((Array.replicate (o0 :: o1 :: o2 :: r).toArray.size false).setIfInBounds 0 true).setIfInBounds 1 true) = [2])
    (hB : Region.lexFrom .any (o0 :: o1 :: o2 :: r).toArray r.length 3 ((((Array.replicate (o0 :: o1 :: o2 :: r).toArray.size false).setIfInBounds 0 true).setIfInBounds 1 true).setIfInBounds 2 true) = true)
    (y0 : YieldsIf P (o0 :: o1 :: o2 :: r).toArray S o0 v0 a) (y1 : YieldsIf P (o0 :: o1 :: o2 :: r).toArray S o1 v1 (a.put o0.dst v0))
    (hw2 : Region.wanted o2 (yielded (o0 :: o1 :: o2 :: r).toArray ((a.put o0.dst v0).put o1.dst v1).tmps) = true)
    (e2 : (execOp ((a.put o0.dst v0).put o1.dst v1).eval o2).run P { w with drawn := w.drawn + 1 } = .ok (.value v2) w3)
    (hS : S { w with drawn := w.drawn + 1 }) (hC : C w3) (hCS : ∀ w, C w → S w)
    (h : wpQuiet P (o0 :: o1 :: o2 :: r).toArray C (fun a' => ∀ w', C w' → Q .normal a' w') r (((a.put o0.dst v0).put o1.dst v1).put o2.dst v2)) : (Code.region id (o0 :: o1 :: o2 :: r).toArray true).wp P Q a w := by
  refine wp_region_noPanic ?_
  refine wp_region_held (S := S) hm ?_
  show wpAnyH P .any (o0 :: o1 :: o2 :: r).toArray (NoPanic Q) S (r.length + 1 + 1 + 1) (Array.replicate (o0 :: o1 :: o2 :: r).toArray.size false) a { w with drawn := w.drawn + 1 }
  refine wpAnyH_take (i := 0) (oi := o0) (v := v0) rfl hs f0 r0 (fun _ _ _ h => h) y0 hS ?_
  refine wpAnyH_take (i := 1) (oi := o1) (v := v1) rfl hs f1 r1 (fun _ _ _ h => h) y1 hS ?_
  refine wpAnyH_all r2 (by simp) ?_
  intro i hi
  simp only [List.mem_cons, List.not_mem_nil, or_false] at hi
  subst hi
  unfold wpOp
  have h2 : (o0 :: o1 :: o2 :: r).toArray[2]? = some o2 := rfl
  simp only [h2, hw2, if_true, Oper.wp, e2, Oper.upon]
  refine .inl ⟨hCS _ hC, wpAnyH_of_quiet (Q := fun a' => ∀ w', C w' → Q .normal a' w') (fun _ w' hw' h => NoPanic.normal (h w' hw')) hCS _ _ _ _ hC ?_⟩
  refine wpAnyQ_lex hs r 3 _ _ (fun j => ?_) hB h
  simp [show 3 + j = j + 1 + 1 + 1 by omega]
end Go.Proofs.YtnnpkomedpjlcaaGreatDoor

/- core.Strip's small functions in general. -/
import Derived.LoopN
import Derived.BigQuiet
import Derived.Test.YtnnpkomedpjlcaaGreatDoorK1
import Derived.Test.YtnnpkomedpjlcaaGreatDoorKX
namespace Go.Proofs.YtnnpkomedpjlcaaGreatDoor
set_option linter.unusedSimpArgs false
set_option linter.unusedVariables false
open Go.RowKit

/-- A statement, or what it exports, that makes nothing at run time. -/
def expN (l : List Nd) (n : Nat) : Nat := if (nd l n).kind = 50 then ((nd l n).kids.getD 0 0).toNat else n
def forT (l : List Nd) (n : Nat) : Bool := (nd l (expN l n)).kind == 51 || (nd l (expN l n)).kind == 52
/-- What a List goes without. -/
def listT (l : List Nd) (n : Nat) : Bool := typeK (nd l n).kind || (nd l n).kind == 67 || ((nd l n).kind == 44 && noneK l n 1)
/-- The rule for the kids of a kind, by its function's number. -/
def ruleF (k : Int) : Nat := if k = 3 ∨ k = 63 ∨ k = 49 then 43 else if k = 2 then 44 else if typeK k = true then 45 else 46
/-- What a rule says of a kid. -/
def leftP (r : Nat) (l : List Nd) (n : Nat) : Bool := if r = 43 then forT l n else if r = 44 then listT l n else r == 45

set_option maxRecDepth 100000 in
set_option maxHeartbeats 4000000 in
theorem always_any (W : World) (v : Value) (n : Int) : Calls Tryz.prog 45 #[v, .int .i64 n] W fun e w' => e = .returned (.bool true) ∧ w' = W := by
  go_enter Tryz.func45, Tryz.ntmps45
  go_wp2
  go_ret
  exact ⟨rfl, rfl⟩
set_option maxRecDepth 100000 in
set_option maxHeartbeats 4000000 in
theorem never_any (W : World) (v : Value) (n : Int) : Calls Tryz.prog 46 #[v, .int .i64 n] W fun e w' => e = .returned (.bool false) ∧ w' = W := by
  go_enter Tryz.func46, Tryz.ntmps46
  go_wp2
  go_ret
  exact ⟨rfl, rfl⟩

set_option maxRecDepth 100000 in
set_option maxHeartbeats 4000000 in
theorem rule_any (W : World) (k : Int) : Calls Tryz.prog 26 #[.int .i64 k] W fun e w' => e = .returned (.func (.func (ruleF k)) #[] #[]) ∧ w' = W := by
  by_cases h1 : k = 3 ∨ k = 63 ∨ k = 49
  · rcases h1 with rfl | rfl | rfl <;>
    (go_enter Tryz.func26, Tryz.ntmps26
     go_wp2
     go_ret
     exact ⟨rfl, rfl⟩)
  · by_cases h2 : k = 2
    · subst h2
      go_enter Tryz.func26, Tryz.ntmps26
      go_wp2
      go_ret
      exact ⟨rfl, rfl⟩
    · have q1 : (k == 3) = false := by simp only [beq_eq_false_iff_ne]; omega
      have q2 : (k == 63) = false := by simp only [beq_eq_false_iff_ne]; omega
      have q3 : (k == 49) = false := by simp only [beq_eq_false_iff_ne]; omega
      have q4 : (k == 2) = false := by simp only [beq_eq_false_iff_ne]; omega
      have HT := hide (coreType_any W k)
      cases ht : typeK k with
      | true =>
        have hR : ruleF k = 45 := by simp [ruleF, h1, h2, ht]
        rw [ht] at HT
        rw [hR]
        clear h1 h2 ht hR
        go_enter Tryz.func26, Tryz.ntmps26
        go_wp2_with (go_at_call 35; refine (unhide HT).mono ?_; rintro e w2 ⟨rfl, rfl⟩)
        go_ret
        exact ⟨rfl, rfl⟩
      | false =>
        have hR : ruleF k = 46 := by simp [ruleF, h1, h2, ht]
        rw [ht] at HT
        rw [hR]
        clear h1 h2 ht hR
        go_enter Tryz.func26, Tryz.ntmps26
        go_wp2_with (go_at_call 35; refine (unhide HT).mono ?_; rintro e w2 ⟨rfl, rfl⟩)
        go_ret
        exact ⟨rfl, rfl⟩

set_option maxRecDepth 100000 in
set_option maxHeartbeats 4000000 in
theorem forT_any (W : World) (M : Nat) (v : Value) (l : List Nd) (n : Nat) (hN : Nodes W M v l) (hM : M ≤ W.heap.size) (hn : n < l.length) (h50 : (nd l n).kind = 50 → 0 < (nd l n).kids.length ∧ ins l ((nd l n).kids.getD 0 0) = true) :
    Calls Tryz.prog 43 #[v, .int .i64 (n : Int)] W fun e w' => e = .returned (.bool (forT l n)) ∧ w' = W := by
  have hl1 := hN.1
  obtain ⟨b, o, cap, ka, kc, rfl, hc1, hc2, hb, d0, d1, d2, d3, d4, hkc, hkm, hK⟩ := hN.at hn
  have t1 : (n : Int) < l.length := by omega
  have t2 : (0 : Int) ≤ (n : Int) := by omega
  have t3 : b < W.heap.size := by omega
  by_cases hk : (nd l n).kind = 50
  · obtain ⟨hk0, hki⟩ := h50 hk
    have hq := ins_iff'.1 hki
    obtain ⟨q, hq1⟩ : ∃ q : Nat, (nd l n).kids.getD 0 0 = (q : Int) := ⟨((nd l n).kids.getD 0 0).toNat, by omega⟩
    have hql : q < l.length := by omega
    have hE : expN l n = q := by simp only [expN, if_pos hk, hq1]; rfl
    rcases hK with h | ⟨kb, ko, rfl, hkb, hkc0⟩
    · rw [h] at hk0; simp at hk0
    have dk := hkc0 0 hk0
    rw [hq1, Nat.add_zero] at dk
    obtain ⟨b2, o2, cap2, qa, qc, hv, _, _, _, e0, _, _, _, _, _, _, _⟩ := hN.at hql
    cases hv
    obtain ⟨kl, hkl⟩ : ∃ kl, (nd l n).kids.length = kl := ⟨_, rfl⟩
    rw [hkl] at d3 hk0
    rw [hk] at d0
    unfold forT
    rw [hE]
    obtain ⟨x, hx⟩ : ∃ x, (nd l q).kind = x := ⟨_, rfl⟩
    rw [hx] at e0 ⊢
    have t4 : (0 : Int) < (kl : Int) := by omega
    have t5 : (q : Int) < l.length := by omega
    have t6 : (0 : Int) ≤ (q : Int) := by omega
    have t7 : kb < W.heap.size := by omega
    clear hN h50 hk hki hq hq1 hE hkc0 d1 d2 d4 hx hkl
    cases h51 : (x == 51) with
    | true =>
      rw [Bool.true_or]
      go_enter Tryz.func43, Tryz.ntmps43
      go_wp2
      go_ret
      exact ⟨rfl, rfl⟩
    | false =>
      rw [Bool.false_or]
      go_enter Tryz.func43, Tryz.ntmps43
      go_wp2
      go_ret
      exact ⟨rfl, rfl⟩
  · have hE : expN l n = n := by simp only [expN, if_neg hk]
    unfold forT
    rw [hE]
    obtain ⟨x, hx⟩ : ∃ x, (nd l n).kind = x := ⟨_, rfl⟩
    rw [hx] at d0 hk ⊢
    have q50 : (x == 50) = false := beq_eq_false_iff_ne.2 hk
    clear hN h50 hk hE d1 d2 d3 d4 hx hK
    cases h51 : (x == 51) with
    | true =>
      rw [Bool.true_or]
      go_enter Tryz.func43, Tryz.ntmps43
      go_wp2
      go_ret
      exact ⟨rfl, rfl⟩
    | false =>
      rw [Bool.false_or]
      go_enter Tryz.func43, Tryz.ntmps43
      go_wp2
      go_ret
      exact ⟨rfl, rfl⟩

set_option maxRecDepth 100000 in
set_option maxHeartbeats 4000000 in
theorem listT_any (W : World) (M : Nat) (v : Value) (l : List Nd) (n : Nat) (hN : Nodes W M v l) (hM : M ≤ W.heap.size) (hn : n < l.length) (h44 : (nd l n).kind = 44 → 1 < (nd l n).kids.length ∧ ins l ((nd l n).kids.getD 1 0) = true) :
    Calls Tryz.prog 44 #[v, .int .i64 (n : Int)] W fun e w' => e = .returned (.bool (listT l n)) ∧ w' = W := by
  have hl1 := hN.1
  obtain ⟨b, o, cap, ka, kc, rfl, hc1, hc2, hb, d0, d1, d2, d3, d4, hkc, hkm, hK⟩ := hN.at hn
  have t1 : (n : Int) < l.length := by omega
  have t2 : (0 : Int) ≤ (n : Int) := by omega
  have t3 : b < W.heap.size := by omega
  have HT := hide (coreType_any W (nd l n).kind)
  by_cases hk : (nd l n).kind = 44
  · obtain ⟨hk0, hki⟩ := h44 hk
    have hq := ins_iff'.1 hki
    obtain ⟨q, hq1⟩ : ∃ q : Nat, (nd l n).kids.getD 1 0 = (q : Int) := ⟨((nd l n).kids.getD 1 0).toNat, by omega⟩
    have hql : q < l.length := by omega
    have hE : listT l n = ((nd l q).kind == 1) := by
      simp only [listT, noneK, kd, hk, hq1]
      rfl
    rcases hK with h | ⟨kb, ko, rfl, hkb, hkc0⟩
    · rw [h] at hk0; simp at hk0
    have dk := hkc0 1 hk0
    rw [hq1] at dk
    obtain ⟨b2, o2, cap2, qa, qc, hv, _, _, _, e0, _, _, _, _, _, _, _⟩ := hN.at hql
    cases hv
    obtain ⟨kl, hkl⟩ : ∃ kl, (nd l n).kids.length = kl := ⟨_, rfl⟩
    rw [hkl] at d3 hk0
    rw [hk] at d0 HT
    rw [hE]
    obtain ⟨x, hx⟩ : ∃ x, (nd l q).kind = x := ⟨_, rfl⟩
    rw [hx] at e0 ⊢
    have t4 : (1 : Int) < (kl : Int) := by omega
    have t5 : (q : Int) < l.length := by omega
    have t6 : (0 : Int) ≤ (q : Int) := by omega
    have t7 : kb < W.heap.size := by omega
    have HT' : Hid (Calls Tryz.prog 35 #[.int .i64 44] W fun e w' => e = .returned (.bool false) ∧ w' = W) := unhide HT
    clear hN h44 hk hki hq hq1 hE hkc0 d1 d2 d4 hx hkl HT
    go_enter Tryz.func44, Tryz.ntmps44
    go_wp2_with (go_at_call 35; refine (unhide HT').mono ?_; rintro e w2 ⟨rfl, rfl⟩)
    go_ret
    exact ⟨rfl, rfl⟩
  · have hE : listT l n = (typeK (nd l n).kind || (nd l n).kind == 67) := by
      have q44 : ((nd l n).kind == 44) = false := beq_eq_false_iff_ne.2 hk
      simp [listT, q44]
    rw [hE]
    obtain ⟨x, hx⟩ : ∃ x, (nd l n).kind = x := ⟨_, rfl⟩
    rw [hx] at d0 hk HT ⊢
    have q44 : (x == 44) = false := beq_eq_false_iff_ne.2 hk
    clear hN h44 hk hE d1 d2 d3 d4 hx hK
    cases ht : typeK x with
    | true =>
      rw [ht] at HT
      rw [Bool.true_or]
      go_enter Tryz.func44, Tryz.ntmps44
      go_wp2_with (go_at_call 35; refine (unhide HT).mono ?_; rintro e w2 ⟨rfl, rfl⟩)
      go_ret
      exact ⟨rfl, rfl⟩
    | false =>
      rw [ht] at HT
      rw [Bool.false_or]
      cases h67 : (x == 67) with
      | true =>
        go_enter Tryz.func44, Tryz.ntmps44
        go_wp2_with (go_at_call 35; refine (unhide HT).mono ?_; rintro e w2 ⟨rfl, rfl⟩)
        go_ret
        exact ⟨rfl, rfl⟩
      | false =>
        go_enter Tryz.func44, Tryz.ntmps44
        go_wp2_with (go_at_call 35; refine (unhide HT).mono ?_; rintro e w2 ⟨rfl, rfl⟩)
        go_ret
        exact ⟨rfl, rfl⟩
end Go.Proofs.YtnnpkomedpjlcaaGreatDoor

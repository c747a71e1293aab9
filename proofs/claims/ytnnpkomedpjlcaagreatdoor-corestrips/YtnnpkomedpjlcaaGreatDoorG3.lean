/- The reference's kids of types, of statements, of functions and classes. -/
import Derived.Deep.RegionWith
import Derived.LoopN
import Derived.Test.YtnnpkomedpjlcaaGreatDoorG1
import Derived.Test.YtnnpkomedpjlcaaGreatDoorTH
/- The reference's kids of types. -/
namespace Go.Proofs.YtnnpkomedpjlcaaGreatDoor
set_option linter.unusedSimpArgs false
set_option linter.unusedVariables false
open Go.RowKit

set_option maxRecDepth 100000 in
set_option maxHeartbeats 2000000 in
theorem arm_80 (W : World) (M : Nat) (v : Value) (l : List Nd) (n : Nat) (hN : Nodes W M v l) (hM : M ≤ W.heap.size) (hn : n < l.length) (hk : (nd l n).kind = 80) :
    Calls Tryz.prog 77 #[.agg #[v], .int .i64 (n : Int)] W fun e w' => e = .returned (.bool (kidR 80 l n)) ∧ Below W.heap.size W w' := by
  obtain ⟨bb, o, cap, ka, kc, W1, W2, rfl, hW1, hW2, hc1, hc2, hl1, hkl, HKA, hkc, hkm, ⟨c0, d0, d1, d2, d3, d4, s1, s2⟩, HCL, HREF, HB0⟩ := arm_start W M v l n hN hM hn
  obtain ⟨z0, z1, z2, z3, z4, z5⟩ := unhide HCL W2 (unhide HB0)
  have HZ0 := hide z0
  rw [hk] at hW2 d0 z2 HCL
  have hlt : (n : Int) < l.length := by omega
  have hn0 : (0 : Int) ≤ (n : Int) := by omega
  obtain ⟨nk, hnk⟩ : ∃ nk, (nd l n).kids.length = nk := ⟨_, rfl⟩
  have HNK := hide hnk
  rw [hnk] at hW2 d3 z3 HCL hkl hkc
  clear hN hk hnk z0
  have hBB := unhide HB0
  by_cases h1 : nk = 1
  case pos =>
    have g1_h1 : (nk : Int) = 1 := by omega
    have H1 := hide h1
    clear h1
    have HC2 : Hid (∀ w, Below W2.heap.size W2 w → Calls Tryz.prog 108 #[.agg #[.slice (some ⟨bb, o, none⟩) l.length cap], .int .i64 (n : Int), .int .i64 0, .int .i64 1001] w fun e w' => e = .returned (.bool (listR l n 0 1001)) ∧ Below W2.heap.size W2 w') := fun w hw => (unhide HREF).list w hw 0 1001 (by decide)
    cases h2 : listR l n 0 1001 with
    | true =>
      have H2 := hide h2
      rw [h2] at HC2
      clear h2
      have HF : Hid (kidR 80 l n = true) := by show kidR 80 l n = _; simp [kidR, funcR, unhide HNK, unhide H1, unhide H2]
      go_enter Tryz.func77, Tryz.ntmps77
      go_wp2_with (first | (go_at_call_of 108 (1001 : Int); refine (unhide HC2 _ (by assumption)).mono ?_; rintro e w3 ⟨rfl, hB3⟩; obtain ⟨y00, y01, y02, y03, y04, y05⟩ := unhide HCL w3 hB3))
      go_ret
      exact ⟨ret_b (unhide HF).symm, (unhide HCL w3 hB3).1⟩
    | false =>
      have H2 := hide h2
      rw [h2] at HC2
      clear h2
      have HF : Hid (kidR 80 l n = false) := by show kidR 80 l n = _; simp [kidR, funcR, unhide HNK, unhide H1, unhide H2]
      go_enter Tryz.func77, Tryz.ntmps77
      go_wp2_with (first | (go_at_call_of 108 (1001 : Int); refine (unhide HC2 _ (by assumption)).mono ?_; rintro e w3 ⟨rfl, hB3⟩; obtain ⟨y00, y01, y02, y03, y04, y05⟩ := unhide HCL w3 hB3))
      go_ret
      exact ⟨ret_b (unhide HF).symm, (unhide HCL w3 hB3).1⟩
  case neg =>
    have g2_h1 : ¬ (nk : Int) = 1 := by omega
    have gb2_h1 : ((nk : Int) == 1) = false := by simpa using g2_h1
    have H1 := hide h1
    clear h1
    have HF : Hid (kidR 80 l n = false) := by show kidR 80 l n = _; simp [kidR, funcR, unhide HNK, unhide H1]
    go_enter Tryz.func77, Tryz.ntmps77
    go_wp2
    go_ret
    exact ⟨ret_b (unhide HF).symm, unhide HZ0⟩
set_option maxRecDepth 100000 in
set_option maxHeartbeats 2000000 in
theorem arm_83 (W : World) (M : Nat) (v : Value) (l : List Nd) (n : Nat) (hN : Nodes W M v l) (hM : M ≤ W.heap.size) (hn : n < l.length) (hk : (nd l n).kind = 83) :
    Calls Tryz.prog 77 #[.agg #[v], .int .i64 (n : Int)] W fun e w' => e = .returned (.bool (kidR 83 l n)) ∧ Below W.heap.size W w' := by
  obtain ⟨bb, o, cap, ka, kc, W1, W2, rfl, hW1, hW2, hc1, hc2, hl1, hkl, HKA, hkc, hkm, ⟨c0, d0, d1, d2, d3, d4, s1, s2⟩, HCL, HREF, HB0⟩ := arm_start W M v l n hN hM hn
  obtain ⟨z0, z1, z2, z3, z4, z5⟩ := unhide HCL W2 (unhide HB0)
  have HZ0 := hide z0
  rw [hk] at hW2 d0 z2 HCL
  have hlt : (n : Int) < l.length := by omega
  have hn0 : (0 : Int) ≤ (n : Int) := by omega
  obtain ⟨nk, hnk⟩ : ∃ nk, (nd l n).kids.length = nk := ⟨_, rfl⟩
  have HNK := hide hnk
  rw [hnk] at hW2 d3 z3 HCL hkl hkc
  clear hN hk hnk z0
  have hBB := unhide HB0
  have HC1 : Hid (Calls Tryz.prog 109 #[.agg #[.slice (some ⟨bb, o, none⟩) l.length cap], .int .i64 (n : Int), .slice (some ⟨W2.heap.size, 0, none⟩) 1 1] (W2.alloc (.cells #[.int .i64 1001] 3)) fun e w' => e = .returned (.bool (rowR l n [1001])) ∧ Below W2.heap.size W2 w') := (unhide HREF).row W2 (unhide HB0) [1001] (by decide) (by decide)
  cases h1 : rowR l n [1001] with
  | true =>
    have H1 := hide h1
    rw [h1] at HC1
    clear h1
    have HF : Hid (kidR 83 l n = true) := by show kidR 83 l n = _; simp [kidR, funcR, unhide HNK, unhide H1]
    go_enter Tryz.func77, Tryz.ntmps77
    go_wp2_with (first | (go_at_call 109; refine (unhide HC1).mono ?_; rintro e w3 ⟨rfl, hB3⟩; obtain ⟨y00, y01, y02, y03, y04, y05⟩ := unhide HCL w3 hB3))
    go_ret
    exact ⟨ret_b (unhide HF).symm, (unhide HCL w3 hB3).1⟩
  | false =>
    have H1 := hide h1
    rw [h1] at HC1
    clear h1
    have HF : Hid (kidR 83 l n = false) := by show kidR 83 l n = _; simp [kidR, funcR, unhide HNK, unhide H1]
    go_enter Tryz.func77, Tryz.ntmps77
    go_wp2_with (first | (go_at_call 109; refine (unhide HC1).mono ?_; rintro e w3 ⟨rfl, hB3⟩; obtain ⟨y00, y01, y02, y03, y04, y05⟩ := unhide HCL w3 hB3))
    go_ret
    exact ⟨ret_b (unhide HF).symm, (unhide HCL w3 hB3).1⟩
set_option maxRecDepth 100000 in
set_option maxHeartbeats 2000000 in
theorem arm_85 (W : World) (M : Nat) (v : Value) (l : List Nd) (n : Nat) (hN : Nodes W M v l) (hM : M ≤ W.heap.size) (hn : n < l.length) (hk : (nd l n).kind = 85) :
    Calls Tryz.prog 77 #[.agg #[v], .int .i64 (n : Int)] W fun e w' => e = .returned (.bool (kidR 85 l n)) ∧ Below W.heap.size W w' := by
  obtain ⟨bb, o, cap, ka, kc, W1, W2, rfl, hW1, hW2, hc1, hc2, hl1, hkl, HKA, hkc, hkm, ⟨c0, d0, d1, d2, d3, d4, s1, s2⟩, HCL, HREF, HB0⟩ := arm_start W M v l n hN hM hn
  obtain ⟨z0, z1, z2, z3, z4, z5⟩ := unhide HCL W2 (unhide HB0)
  have HZ0 := hide z0
  rw [hk] at hW2 d0 z2 HCL
  have hlt : (n : Int) < l.length := by omega
  have hn0 : (0 : Int) ≤ (n : Int) := by omega
  obtain ⟨nk, hnk⟩ : ∃ nk, (nd l n).kids.length = nk := ⟨_, rfl⟩
  have HNK := hide hnk
  rw [hnk] at hW2 d3 z3 HCL hkl hkc
  clear hN hk hnk z0
  have hBB := unhide HB0
  have HC1 : Hid (Calls Tryz.prog 109 #[.agg #[.slice (some ⟨bb, o, none⟩) l.length cap], .int .i64 (n : Int), .slice (some ⟨W2.heap.size, 0, none⟩) 1 1] (W2.alloc (.cells #[.int .i64 1001] 3)) fun e w' => e = .returned (.bool (rowR l n [1001])) ∧ Below W2.heap.size W2 w') := (unhide HREF).row W2 (unhide HB0) [1001] (by decide) (by decide)
  cases h1 : rowR l n [1001] with
  | true =>
    have H1 := hide h1
    rw [h1] at HC1
    clear h1
    have HF : Hid (kidR 85 l n = true) := by show kidR 85 l n = _; simp [kidR, funcR, unhide HNK, unhide H1]
    go_enter Tryz.func77, Tryz.ntmps77
    go_wp2_with (first | (go_at_call 109; refine (unhide HC1).mono ?_; rintro e w3 ⟨rfl, hB3⟩; obtain ⟨y00, y01, y02, y03, y04, y05⟩ := unhide HCL w3 hB3))
    go_ret
    exact ⟨ret_b (unhide HF).symm, (unhide HCL w3 hB3).1⟩
  | false =>
    have H1 := hide h1
    rw [h1] at HC1
    clear h1
    have HF : Hid (kidR 85 l n = false) := by show kidR 85 l n = _; simp [kidR, funcR, unhide HNK, unhide H1]
    go_enter Tryz.func77, Tryz.ntmps77
    go_wp2_with (first | (go_at_call 109; refine (unhide HC1).mono ?_; rintro e w3 ⟨rfl, hB3⟩; obtain ⟨y00, y01, y02, y03, y04, y05⟩ := unhide HCL w3 hB3))
    go_ret
    exact ⟨ret_b (unhide HF).symm, (unhide HCL w3 hB3).1⟩
set_option maxRecDepth 100000 in
set_option maxHeartbeats 2000000 in
theorem arm_84 (W : World) (M : Nat) (v : Value) (l : List Nd) (n : Nat) (hN : Nodes W M v l) (hM : M ≤ W.heap.size) (hn : n < l.length) (hk : (nd l n).kind = 84) :
    Calls Tryz.prog 77 #[.agg #[v], .int .i64 (n : Int)] W fun e w' => e = .returned (.bool (kidR 84 l n)) ∧ Below W.heap.size W w' := by
  obtain ⟨bb, o, cap, ka, kc, W1, W2, rfl, hW1, hW2, hc1, hc2, hl1, hkl, HKA, hkc, hkm, ⟨c0, d0, d1, d2, d3, d4, s1, s2⟩, HCL, HREF, HB0⟩ := arm_start W M v l n hN hM hn
  obtain ⟨z0, z1, z2, z3, z4, z5⟩ := unhide HCL W2 (unhide HB0)
  have HZ0 := hide z0
  rw [hk] at hW2 d0 z2 HCL
  have hlt : (n : Int) < l.length := by omega
  have hn0 : (0 : Int) ≤ (n : Int) := by omega
  obtain ⟨nk, hnk⟩ : ∃ nk, (nd l n).kids.length = nk := ⟨_, rfl⟩
  have HNK := hide hnk
  rw [hnk] at hW2 d3 z3 HCL hkl hkc
  clear hN hk hnk z0
  have hBB := unhide HB0
  have HC1 : Hid (∀ w, Below W2.heap.size W2 w → Calls Tryz.prog 110 #[.agg #[.slice (some ⟨bb, o, none⟩) l.length cap], .int .i64 (n : Int), .int .i64 85, .int .i64 85] w fun e w' => e = .returned (.bool (eachU l n 85 85 nk)) ∧ Below W2.heap.size W2 w') := fun w hw => by rw [← unhide HNK]; exact (unhide HREF).each w hw 85 85
  cases h1 : eachU l n 85 85 nk with
  | true =>
    have H1 := hide h1
    rw [h1] at HC1
    clear h1
    have HF : Hid (kidR 84 l n = true) := by show kidR 84 l n = _; simp [kidR, funcR, unhide HNK, unhide H1]
    go_enter Tryz.func77, Tryz.ntmps77
    go_wp2_with (first | (go_at_call 110; refine (unhide HC1 _ (by assumption)).mono ?_; rintro e w3 ⟨rfl, hB3⟩; obtain ⟨y00, y01, y02, y03, y04, y05⟩ := unhide HCL w3 hB3))
    go_ret
    exact ⟨ret_b (unhide HF).symm, (unhide HCL w3 hB3).1⟩
  | false =>
    have H1 := hide h1
    rw [h1] at HC1
    clear h1
    have HF : Hid (kidR 84 l n = false) := by show kidR 84 l n = _; simp [kidR, funcR, unhide HNK, unhide H1]
    go_enter Tryz.func77, Tryz.ntmps77
    go_wp2_with (first | (go_at_call 110; refine (unhide HC1 _ (by assumption)).mono ?_; rintro e w3 ⟨rfl, hB3⟩; obtain ⟨y00, y01, y02, y03, y04, y05⟩ := unhide HCL w3 hB3))
    go_ret
    exact ⟨ret_b (unhide HF).symm, (unhide HCL w3 hB3).1⟩
set_option maxRecDepth 100000 in
set_option maxHeartbeats 2000000 in
theorem arm_86 (W : World) (M : Nat) (v : Value) (l : List Nd) (n : Nat) (hN : Nodes W M v l) (hM : M ≤ W.heap.size) (hn : n < l.length) (hk : (nd l n).kind = 86) :
    Calls Tryz.prog 77 #[.agg #[v], .int .i64 (n : Int)] W fun e w' => e = .returned (.bool (kidR 86 l n)) ∧ Below W.heap.size W w' := by
  obtain ⟨bb, o, cap, ka, kc, W1, W2, rfl, hW1, hW2, hc1, hc2, hl1, hkl, HKA, hkc, hkm, ⟨c0, d0, d1, d2, d3, d4, s1, s2⟩, HCL, HREF, HB0⟩ := arm_start W M v l n hN hM hn
  obtain ⟨z0, z1, z2, z3, z4, z5⟩ := unhide HCL W2 (unhide HB0)
  have HZ0 := hide z0
  rw [hk] at hW2 d0 z2 HCL
  have hlt : (n : Int) < l.length := by omega
  have hn0 : (0 : Int) ≤ (n : Int) := by omega
  obtain ⟨nk, hnk⟩ : ∃ nk, (nd l n).kids.length = nk := ⟨_, rfl⟩
  have HNK := hide hnk
  rw [hnk] at hW2 d3 z3 HCL hkl hkc
  clear hN hk hnk z0
  have hBB := unhide HB0
  have HC1 : Hid (Calls Tryz.prog 109 #[.agg #[.slice (some ⟨bb, o, none⟩) l.length cap], .int .i64 (n : Int), .slice (some ⟨W2.heap.size, 0, none⟩) 2 2] (W2.alloc (.cells #[.int .i64 2, .int .i64 1001] 3)) fun e w' => e = .returned (.bool (rowR l n [2, 1001])) ∧ Below W2.heap.size W2 w') := (unhide HREF).row W2 (unhide HB0) [2, 1001] (by decide) (by decide)
  cases h1 : rowR l n [2, 1001] with
  | true =>
    have H1 := hide h1
    rw [h1] at HC1
    clear h1
    have HC2 : Hid (∀ w, Below W2.heap.size W2 w → Calls Tryz.prog 108 #[.agg #[.slice (some ⟨bb, o, none⟩) l.length cap], .int .i64 (n : Int), .int .i64 0, .int .i64 1003] w fun e w' => e = .returned (.bool (listR l n 0 1003)) ∧ Below W2.heap.size W2 w') := fun w hw => (unhide HREF).list w hw 0 1003 (by decide)
    cases h2 : listR l n 0 1003 with
    | true =>
      have H2 := hide h2
      rw [h2] at HC2
      clear h2
      have HF : Hid (kidR 86 l n = true) := by show kidR 86 l n = _; simp [kidR, funcR, unhide HNK, unhide H1, unhide H2]
      go_enter Tryz.func77, Tryz.ntmps77
      go_wp2_with (first | (go_at_call 109; refine (unhide HC1).mono ?_; rintro e w3 ⟨rfl, hB3⟩; obtain ⟨y00, y01, y02, y03, y04, y05⟩ := unhide HCL w3 hB3) | (go_at_call_of 108 (1003 : Int); refine (unhide HC2 _ (by assumption)).mono ?_; rintro e w4 ⟨rfl, hB4⟩; obtain ⟨y10, y11, y12, y13, y14, y15⟩ := unhide HCL w4 hB4))
      go_ret
      exact ⟨ret_b (unhide HF).symm, (unhide HCL w4 hB4).1⟩
    | false =>
      have H2 := hide h2
      rw [h2] at HC2
      clear h2
      have HF : Hid (kidR 86 l n = false) := by show kidR 86 l n = _; simp [kidR, funcR, unhide HNK, unhide H1, unhide H2]
      go_enter Tryz.func77, Tryz.ntmps77
      go_wp2_with (first | (go_at_call 109; refine (unhide HC1).mono ?_; rintro e w3 ⟨rfl, hB3⟩; obtain ⟨y00, y01, y02, y03, y04, y05⟩ := unhide HCL w3 hB3) | (go_at_call_of 108 (1003 : Int); refine (unhide HC2 _ (by assumption)).mono ?_; rintro e w4 ⟨rfl, hB4⟩; obtain ⟨y10, y11, y12, y13, y14, y15⟩ := unhide HCL w4 hB4))
      go_ret
      exact ⟨ret_b (unhide HF).symm, (unhide HCL w4 hB4).1⟩
  | false =>
    have H1 := hide h1
    rw [h1] at HC1
    clear h1
    have HF : Hid (kidR 86 l n = false) := by show kidR 86 l n = _; simp [kidR, funcR, unhide HNK, unhide H1]
    go_enter Tryz.func77, Tryz.ntmps77
    go_wp2_with (first | (go_at_call 109; refine (unhide HC1).mono ?_; rintro e w3 ⟨rfl, hB3⟩; obtain ⟨y00, y01, y02, y03, y04, y05⟩ := unhide HCL w3 hB3))
    go_ret
    exact ⟨ret_b (unhide HF).symm, (unhide HCL w3 hB3).1⟩
set_option maxRecDepth 100000 in
set_option maxHeartbeats 2000000 in
theorem arm_87 (W : World) (M : Nat) (v : Value) (l : List Nd) (n : Nat) (hN : Nodes W M v l) (hM : M ≤ W.heap.size) (hn : n < l.length) (hk : (nd l n).kind = 87) :
    Calls Tryz.prog 77 #[.agg #[v], .int .i64 (n : Int)] W fun e w' => e = .returned (.bool (kidR 87 l n)) ∧ Below W.heap.size W w' := by
  obtain ⟨bb, o, cap, ka, kc, W1, W2, rfl, hW1, hW2, hc1, hc2, hl1, hkl, HKA, hkc, hkm, ⟨c0, d0, d1, d2, d3, d4, s1, s2⟩, HCL, HREF, HB0⟩ := arm_start W M v l n hN hM hn
  obtain ⟨z0, z1, z2, z3, z4, z5⟩ := unhide HCL W2 (unhide HB0)
  have HZ0 := hide z0
  rw [hk] at hW2 d0 z2 HCL
  have hlt : (n : Int) < l.length := by omega
  have hn0 : (0 : Int) ≤ (n : Int) := by omega
  obtain ⟨nk, hnk⟩ : ∃ nk, (nd l n).kids.length = nk := ⟨_, rfl⟩
  have HNK := hide hnk
  rw [hnk] at hW2 d3 z3 HCL hkl hkc
  clear hN hk hnk z0
  have hBB := unhide HB0
  by_cases h1 : 2 ≤ nk
  case pos =>
    have g1_h1 : (2 : Int) ≤ nk := by omega
    have H1 := hide h1
    clear h1
    have HC2 : Hid (∀ w, Below W2.heap.size W2 w → Calls Tryz.prog 110 #[.agg #[.slice (some ⟨bb, o, none⟩) l.length cap], .int .i64 (n : Int), .int .i64 1001, .int .i64 1001] w fun e w' => e = .returned (.bool (eachU l n 1001 1001 nk)) ∧ Below W2.heap.size W2 w') := fun w hw => by rw [← unhide HNK]; exact (unhide HREF).each w hw 1001 1001
    cases h2 : eachU l n 1001 1001 nk with
    | true =>
      have H2 := hide h2
      rw [h2] at HC2
      clear h2
      have HF : Hid (kidR 87 l n = true) := by show kidR 87 l n = _; simp [kidR, funcR, unhide HNK, unhide H1, unhide H2]
      go_enter Tryz.func77, Tryz.ntmps77
      go_wp2_with (first | (go_at_call 110; refine (unhide HC2 _ (by assumption)).mono ?_; rintro e w3 ⟨rfl, hB3⟩; obtain ⟨y00, y01, y02, y03, y04, y05⟩ := unhide HCL w3 hB3))
      go_ret
      exact ⟨ret_b (unhide HF).symm, (unhide HCL w3 hB3).1⟩
    | false =>
      have H2 := hide h2
      rw [h2] at HC2
      clear h2
      have HF : Hid (kidR 87 l n = false) := by show kidR 87 l n = _; simp [kidR, funcR, unhide HNK, unhide H1, unhide H2]
      go_enter Tryz.func77, Tryz.ntmps77
      go_wp2_with (first | (go_at_call 110; refine (unhide HC2 _ (by assumption)).mono ?_; rintro e w3 ⟨rfl, hB3⟩; obtain ⟨y00, y01, y02, y03, y04, y05⟩ := unhide HCL w3 hB3))
      go_ret
      exact ⟨ret_b (unhide HF).symm, (unhide HCL w3 hB3).1⟩
  case neg =>
    have g2_h1 : ¬ (2 : Int) ≤ nk := by omega
    have H1 := hide h1
    clear h1
    have HF : Hid (kidR 87 l n = false) := by show kidR 87 l n = _; simp [kidR, funcR, unhide HNK, unhide H1]
    go_enter Tryz.func77, Tryz.ntmps77
    go_wp2
    go_ret
    exact ⟨ret_b (unhide HF).symm, unhide HZ0⟩
set_option maxRecDepth 100000 in
set_option maxHeartbeats 2000000 in
theorem arm_81 (W : World) (M : Nat) (v : Value) (l : List Nd) (n : Nat) (hN : Nodes W M v l) (hM : M ≤ W.heap.size) (hn : n < l.length) (hk : (nd l n).kind = 81) :
    Calls Tryz.prog 77 #[.agg #[v], .int .i64 (n : Int)] W fun e w' => e = .returned (.bool (kidR 81 l n)) ∧ Below W.heap.size W w' := by
  obtain ⟨bb, o, cap, ka, kc, W1, W2, rfl, hW1, hW2, hc1, hc2, hl1, hkl, HKA, hkc, hkm, ⟨c0, d0, d1, d2, d3, d4, s1, s2⟩, HCL, HREF, HB0⟩ := arm_start W M v l n hN hM hn
  obtain ⟨z0, z1, z2, z3, z4, z5⟩ := unhide HCL W2 (unhide HB0)
  have HZ0 := hide z0
  rw [hk] at hW2 d0 z2 HCL
  have hlt : (n : Int) < l.length := by omega
  have hn0 : (0 : Int) ≤ (n : Int) := by omega
  obtain ⟨nk, hnk⟩ : ∃ nk, (nd l n).kids.length = nk := ⟨_, rfl⟩
  have HNK := hide hnk
  rw [hnk] at hW2 d3 z3 HCL hkl hkc
  clear hN hk hnk z0
  have hBB := unhide HB0
  by_cases h1 : nk = 0
  case pos =>
    have g1_h1 : (nk : Int) = 0 := by omega
    have H1 := hide h1
    clear h1
    have HF : Hid (kidR 81 l n = true) := by show kidR 81 l n = _; simp [kidR, funcR, unhide HNK, unhide H1]
    go_enter Tryz.func77, Tryz.ntmps77
    go_wp2
    go_ret
    exact ⟨ret_b (unhide HF).symm, unhide HZ0⟩
  case neg =>
    have g1_h1 : ¬ (nk : Int) = 0 := by omega
    have gb1_h1 : ((nk : Int) == 0) = false := by simpa using g1_h1
    have H1 := hide h1
    clear h1
    have HF : Hid (kidR 81 l n = false) := by show kidR 81 l n = _; simp [kidR, funcR, unhide HNK, unhide H1]
    go_enter Tryz.func77, Tryz.ntmps77
    go_wp2
    go_ret
    exact ⟨ret_b (unhide HF).symm, unhide HZ0⟩
set_option maxRecDepth 100000 in
set_option maxHeartbeats 2000000 in
theorem arm_82 (W : World) (M : Nat) (v : Value) (l : List Nd) (n : Nat) (hN : Nodes W M v l) (hM : M ≤ W.heap.size) (hn : n < l.length) (hk : (nd l n).kind = 82) :
    Calls Tryz.prog 77 #[.agg #[v], .int .i64 (n : Int)] W fun e w' => e = .returned (.bool (kidR 82 l n)) ∧ Below W.heap.size W w' := by
  obtain ⟨bb, o, cap, ka, kc, W1, W2, rfl, hW1, hW2, hc1, hc2, hl1, hkl, HKA, hkc, hkm, ⟨c0, d0, d1, d2, d3, d4, s1, s2⟩, HCL, HREF, HB0⟩ := arm_start W M v l n hN hM hn
  obtain ⟨z0, z1, z2, z3, z4, z5⟩ := unhide HCL W2 (unhide HB0)
  have HZ0 := hide z0
  rw [hk] at hW2 d0 z2 HCL
  have hlt : (n : Int) < l.length := by omega
  have hn0 : (0 : Int) ≤ (n : Int) := by omega
  obtain ⟨nk, hnk⟩ : ∃ nk, (nd l n).kids.length = nk := ⟨_, rfl⟩
  have HNK := hide hnk
  rw [hnk] at hW2 d3 z3 HCL hkl hkc
  clear hN hk hnk z0
  have hBB := unhide HB0
  by_cases h1 : nk = 0
  case pos =>
    have g1_h1 : (nk : Int) = 0 := by omega
    have H1 := hide h1
    clear h1
    have HF : Hid (kidR 82 l n = true) := by show kidR 82 l n = _; simp [kidR, funcR, unhide HNK, unhide H1]
    go_enter Tryz.func77, Tryz.ntmps77
    go_wp2
    go_ret
    exact ⟨ret_b (unhide HF).symm, unhide HZ0⟩
  case neg =>
    have g1_h1 : ¬ (nk : Int) = 0 := by omega
    have gb1_h1 : ((nk : Int) == 0) = false := by simpa using g1_h1
    have H1 := hide h1
    clear h1
    have HF : Hid (kidR 82 l n = false) := by show kidR 82 l n = _; simp [kidR, funcR, unhide HNK, unhide H1]
    go_enter Tryz.func77, Tryz.ntmps77
    go_wp2
    go_ret
    exact ⟨ret_b (unhide HF).symm, unhide HZ0⟩
end Go.Proofs.YtnnpkomedpjlcaaGreatDoor

/- The reference's kids of statements. -/
namespace Go.Proofs.YtnnpkomedpjlcaaGreatDoor
set_option linter.unusedSimpArgs false
set_option linter.unusedVariables false
open Go.RowKit
attribute [local go_sem] fld0 fld2

set_option maxRecDepth 100000 in
set_option maxHeartbeats 2000000 in
theorem arm_3 (W : World) (M : Nat) (v : Value) (l : List Nd) (n : Nat) (hN : Nodes W M v l) (hM : M ≤ W.heap.size) (hn : n < l.length) (hk : (nd l n).kind = 3) :
    Calls Tryz.prog 80 #[.agg #[v], .int .i64 (n : Int)] W fun e w' => e = .returned (.bool (kidR 3 l n)) ∧ Below W.heap.size W w' := by
  obtain ⟨bb, o, cap, ka, kc, W1, W2, rfl, hW1, hW2, hc1, hc2, hl1, hkl, HKA, hkc, hkm, ⟨c0, d0, d1, d2, d3, d4, s1, s2⟩, HCL, HREF, HB0⟩ := arm_start W M v l n hN hM hn
  obtain ⟨z0, z1, z2, z3, z4, z5⟩ := unhide HCL W2 (unhide HB0)
  have HZ0 := hide z0
  rw [hk] at hW2 d0 z2 HCL
  have hlt : (n : Int) < l.length := by omega
  have hn0 : (0 : Int) ≤ (n : Int) := by omega
  obtain ⟨nk, hnk⟩ : ∃ nk, (nd l n).kids.length = nk := ⟨_, rfl⟩
  have HNK := hide hnk
  rw [hnk] at hW2 d3 z3 HCL hkl hkc
  clear hN hk hnk z0
  have hBB := unhide HB0
  have HC1 : Hid (∀ w, Below W2.heap.size W2 w → Calls Tryz.prog 110 #[.agg #[.slice (some ⟨bb, o, none⟩) l.length cap], .int .i64 (n : Int), .int .i64 1002, .int .i64 1002] w fun e w' => e = .returned (.bool (eachU l n 1002 1002 nk)) ∧ Below W2.heap.size W2 w') := fun w hw => by rw [← unhide HNK]; exact (unhide HREF).each w hw 1002 1002
  cases h1 : eachU l n 1002 1002 nk with
  | true =>
    have H1 := hide h1
    rw [h1] at HC1
    clear h1
    have HF : Hid (kidR 3 l n = true) := by show kidR 3 l n = _; simp [kidR, funcR, unhide HNK, unhide H1]
    go_enter Tryz.func80, Tryz.ntmps80
    go_wp2_with (first | (go_at_call 110; refine (unhide HC1 _ (by assumption)).mono ?_; rintro e w3 ⟨rfl, hB3⟩; obtain ⟨y00, y01, y02, y03, y04, y05⟩ := unhide HCL w3 hB3))
    go_ret
    exact ⟨ret_b (unhide HF).symm, (unhide HCL w3 hB3).1⟩
  | false =>
    have H1 := hide h1
    rw [h1] at HC1
    clear h1
    have HF : Hid (kidR 3 l n = false) := by show kidR 3 l n = _; simp [kidR, funcR, unhide HNK, unhide H1]
    go_enter Tryz.func80, Tryz.ntmps80
    go_wp2_with (first | (go_at_call 110; refine (unhide HC1 _ (by assumption)).mono ?_; rintro e w3 ⟨rfl, hB3⟩; obtain ⟨y00, y01, y02, y03, y04, y05⟩ := unhide HCL w3 hB3))
    go_ret
    exact ⟨ret_b (unhide HF).symm, (unhide HCL w3 hB3).1⟩
set_option maxRecDepth 100000 in
set_option maxHeartbeats 2000000 in
theorem arm_63 (W : World) (M : Nat) (v : Value) (l : List Nd) (n : Nat) (hN : Nodes W M v l) (hM : M ≤ W.heap.size) (hn : n < l.length) (hk : (nd l n).kind = 63) :
    Calls Tryz.prog 80 #[.agg #[v], .int .i64 (n : Int)] W fun e w' => e = .returned (.bool (kidR 63 l n)) ∧ Below W.heap.size W w' := by
  obtain ⟨bb, o, cap, ka, kc, W1, W2, rfl, hW1, hW2, hc1, hc2, hl1, hkl, HKA, hkc, hkm, ⟨c0, d0, d1, d2, d3, d4, s1, s2⟩, HCL, HREF, HB0⟩ := arm_start W M v l n hN hM hn
  obtain ⟨z0, z1, z2, z3, z4, z5⟩ := unhide HCL W2 (unhide HB0)
  have HZ0 := hide z0
  rw [hk] at hW2 d0 z2 HCL
  have hlt : (n : Int) < l.length := by omega
  have hn0 : (0 : Int) ≤ (n : Int) := by omega
  obtain ⟨nk, hnk⟩ : ∃ nk, (nd l n).kids.length = nk := ⟨_, rfl⟩
  have HNK := hide hnk
  rw [hnk] at hW2 d3 z3 HCL hkl hkc
  clear hN hk hnk z0
  have hBB := unhide HB0
  have HC1 : Hid (∀ w, Below W2.heap.size W2 w → Calls Tryz.prog 110 #[.agg #[.slice (some ⟨bb, o, none⟩) l.length cap], .int .i64 (n : Int), .int .i64 1002, .int .i64 1002] w fun e w' => e = .returned (.bool (eachU l n 1002 1002 nk)) ∧ Below W2.heap.size W2 w') := fun w hw => by rw [← unhide HNK]; exact (unhide HREF).each w hw 1002 1002
  cases h1 : eachU l n 1002 1002 nk with
  | true =>
    have H1 := hide h1
    rw [h1] at HC1
    clear h1
    have HF : Hid (kidR 63 l n = true) := by show kidR 63 l n = _; simp [kidR, funcR, unhide HNK, unhide H1]
    go_enter Tryz.func80, Tryz.ntmps80
    go_wp2_with (first | (go_at_call 110; refine (unhide HC1 _ (by assumption)).mono ?_; rintro e w3 ⟨rfl, hB3⟩; obtain ⟨y00, y01, y02, y03, y04, y05⟩ := unhide HCL w3 hB3))
    go_ret
    exact ⟨ret_b (unhide HF).symm, (unhide HCL w3 hB3).1⟩
  | false =>
    have H1 := hide h1
    rw [h1] at HC1
    clear h1
    have HF : Hid (kidR 63 l n = false) := by show kidR 63 l n = _; simp [kidR, funcR, unhide HNK, unhide H1]
    go_enter Tryz.func80, Tryz.ntmps80
    go_wp2_with (first | (go_at_call 110; refine (unhide HC1 _ (by assumption)).mono ?_; rintro e w3 ⟨rfl, hB3⟩; obtain ⟨y00, y01, y02, y03, y04, y05⟩ := unhide HCL w3 hB3))
    go_ret
    exact ⟨ret_b (unhide HF).symm, (unhide HCL w3 hB3).1⟩
set_option maxRecDepth 100000 in
set_option maxHeartbeats 2000000 in
theorem arm_54 (W : World) (M : Nat) (v : Value) (l : List Nd) (n : Nat) (hN : Nodes W M v l) (hM : M ≤ W.heap.size) (hn : n < l.length) (hk : (nd l n).kind = 54) :
    Calls Tryz.prog 80 #[.agg #[v], .int .i64 (n : Int)] W fun e w' => e = .returned (.bool (kidR 54 l n)) ∧ Below W.heap.size W w' := by
  obtain ⟨bb, o, cap, ka, kc, W1, W2, rfl, hW1, hW2, hc1, hc2, hl1, hkl, HKA, hkc, hkm, ⟨c0, d0, d1, d2, d3, d4, s1, s2⟩, HCL, HREF, HB0⟩ := arm_start W M v l n hN hM hn
  obtain ⟨z0, z1, z2, z3, z4, z5⟩ := unhide HCL W2 (unhide HB0)
  have HZ0 := hide z0
  rw [hk] at hW2 d0 z2 HCL
  have hlt : (n : Int) < l.length := by omega
  have hn0 : (0 : Int) ≤ (n : Int) := by omega
  obtain ⟨nk, hnk⟩ : ∃ nk, (nd l n).kids.length = nk := ⟨_, rfl⟩
  have HNK := hide hnk
  rw [hnk] at hW2 d3 z3 HCL hkl hkc
  clear hN hk hnk z0
  have hBB := unhide HB0
  have HC1 : Hid (Calls Tryz.prog 109 #[.agg #[.slice (some ⟨bb, o, none⟩) l.length cap], .int .i64 (n : Int), .slice (some ⟨W2.heap.size, 0, none⟩) 2 2] (W2.alloc (.cells #[.int .i64 1000, .int .i64 63] 3)) fun e w' => e = .returned (.bool (rowR l n [1000, 63])) ∧ Below W2.heap.size W2 w') := (unhide HREF).row W2 (unhide HB0) [1000, 63] (by decide) (by decide)
  cases h1 : rowR l n [1000, 63] with
  | true =>
    have H1 := hide h1
    rw [h1] at HC1
    clear h1
    have HF : Hid (kidR 54 l n = true) := by show kidR 54 l n = _; simp [kidR, funcR, unhide HNK, unhide H1]
    go_enter Tryz.func80, Tryz.ntmps80
    go_wp2_with (first | (go_at_call 109; refine (unhide HC1).mono ?_; rintro e w3 ⟨rfl, hB3⟩; obtain ⟨y00, y01, y02, y03, y04, y05⟩ := unhide HCL w3 hB3))
    go_ret
    exact ⟨ret_b (unhide HF).symm, (unhide HCL w3 hB3).1⟩
  | false =>
    have H1 := hide h1
    rw [h1] at HC1
    clear h1
    have HF : Hid (kidR 54 l n = false) := by show kidR 54 l n = _; simp [kidR, funcR, unhide HNK, unhide H1]
    go_enter Tryz.func80, Tryz.ntmps80
    go_wp2_with (first | (go_at_call 109; refine (unhide HC1).mono ?_; rintro e w3 ⟨rfl, hB3⟩; obtain ⟨y00, y01, y02, y03, y04, y05⟩ := unhide HCL w3 hB3))
    go_ret
    exact ⟨ret_b (unhide HF).symm, (unhide HCL w3 hB3).1⟩
set_option maxRecDepth 100000 in
set_option maxHeartbeats 2000000 in
theorem arm_56 (W : World) (M : Nat) (v : Value) (l : List Nd) (n : Nat) (hN : Nodes W M v l) (hM : M ≤ W.heap.size) (hn : n < l.length) (hk : (nd l n).kind = 56) :
    Calls Tryz.prog 80 #[.agg #[v], .int .i64 (n : Int)] W fun e w' => e = .returned (.bool (kidR 56 l n)) ∧ Below W.heap.size W w' := by
  obtain ⟨bb, o, cap, ka, kc, W1, W2, rfl, hW1, hW2, hc1, hc2, hl1, hkl, HKA, hkc, hkm, ⟨c0, d0, d1, d2, d3, d4, s1, s2⟩, HCL, HREF, HB0⟩ := arm_start W M v l n hN hM hn
  obtain ⟨z0, z1, z2, z3, z4, z5⟩ := unhide HCL W2 (unhide HB0)
  have HZ0 := hide z0
  rw [hk] at hW2 d0 z2 HCL
  have hlt : (n : Int) < l.length := by omega
  have hn0 : (0 : Int) ≤ (n : Int) := by omega
  obtain ⟨nk, hnk⟩ : ∃ nk, (nd l n).kids.length = nk := ⟨_, rfl⟩
  have HNK := hide hnk
  rw [hnk] at hW2 d3 z3 HCL hkl hkc
  clear hN hk hnk z0
  have hBB := unhide HB0
  have HC1 : Hid (Calls Tryz.prog 109 #[.agg #[.slice (some ⟨bb, o, none⟩) l.length cap], .int .i64 (n : Int), .slice (some ⟨W2.heap.size, 0, none⟩) 2 2] (W2.alloc (.cells #[.int .i64 1000, .int .i64 63] 3)) fun e w' => e = .returned (.bool (rowR l n [1000, 63])) ∧ Below W2.heap.size W2 w') := (unhide HREF).row W2 (unhide HB0) [1000, 63] (by decide) (by decide)
  cases h1 : rowR l n [1000, 63] with
  | true =>
    have H1 := hide h1
    rw [h1] at HC1
    clear h1
    have HF : Hid (kidR 56 l n = true) := by show kidR 56 l n = _; simp [kidR, funcR, unhide HNK, unhide H1]
    go_enter Tryz.func80, Tryz.ntmps80
    go_wp2_with (first | (go_at_call 109; refine (unhide HC1).mono ?_; rintro e w3 ⟨rfl, hB3⟩; obtain ⟨y00, y01, y02, y03, y04, y05⟩ := unhide HCL w3 hB3))
    go_ret
    exact ⟨ret_b (unhide HF).symm, (unhide HCL w3 hB3).1⟩
  | false =>
    have H1 := hide h1
    rw [h1] at HC1
    clear h1
    have HF : Hid (kidR 56 l n = false) := by show kidR 56 l n = _; simp [kidR, funcR, unhide HNK, unhide H1]
    go_enter Tryz.func80, Tryz.ntmps80
    go_wp2_with (first | (go_at_call 109; refine (unhide HC1).mono ?_; rintro e w3 ⟨rfl, hB3⟩; obtain ⟨y00, y01, y02, y03, y04, y05⟩ := unhide HCL w3 hB3))
    go_ret
    exact ⟨ret_b (unhide HF).symm, (unhide HCL w3 hB3).1⟩
set_option maxRecDepth 100000 in
set_option maxHeartbeats 2000000 in
theorem arm_57 (W : World) (M : Nat) (v : Value) (l : List Nd) (n : Nat) (hN : Nodes W M v l) (hM : M ≤ W.heap.size) (hn : n < l.length) (hk : (nd l n).kind = 57) :
    Calls Tryz.prog 80 #[.agg #[v], .int .i64 (n : Int)] W fun e w' => e = .returned (.bool (kidR 57 l n)) ∧ Below W.heap.size W w' := by
  obtain ⟨bb, o, cap, ka, kc, W1, W2, rfl, hW1, hW2, hc1, hc2, hl1, hkl, HKA, hkc, hkm, ⟨c0, d0, d1, d2, d3, d4, s1, s2⟩, HCL, HREF, HB0⟩ := arm_start W M v l n hN hM hn
  obtain ⟨z0, z1, z2, z3, z4, z5⟩ := unhide HCL W2 (unhide HB0)
  have HZ0 := hide z0
  rw [hk] at hW2 d0 z2 HCL
  have hlt : (n : Int) < l.length := by omega
  have hn0 : (0 : Int) ≤ (n : Int) := by omega
  obtain ⟨nk, hnk⟩ : ∃ nk, (nd l n).kids.length = nk := ⟨_, rfl⟩
  have HNK := hide hnk
  rw [hnk] at hW2 d3 z3 HCL hkl hkc
  clear hN hk hnk z0
  have hBB := unhide HB0
  have HC1 : Hid (Calls Tryz.prog 109 #[.agg #[.slice (some ⟨bb, o, none⟩) l.length cap], .int .i64 (n : Int), .slice (some ⟨W2.heap.size, 0, none⟩) 1 1] (W2.alloc (.cells #[.int .i64 (-1000)] 3)) fun e w' => e = .returned (.bool (rowR l n [-1000])) ∧ Below W2.heap.size W2 w') := (unhide HREF).row W2 (unhide HB0) [-1000] (by decide) (by decide)
  cases h1 : rowR l n [-1000] with
  | true =>
    have H1 := hide h1
    rw [h1] at HC1
    clear h1
    have HF : Hid (kidR 57 l n = true) := by show kidR 57 l n = _; simp [kidR, funcR, unhide HNK, unhide H1]
    go_enter Tryz.func80, Tryz.ntmps80
    go_wp2_with (first | (go_at_call 109; refine (unhide HC1).mono ?_; rintro e w3 ⟨rfl, hB3⟩; obtain ⟨y00, y01, y02, y03, y04, y05⟩ := unhide HCL w3 hB3))
    go_ret
    exact ⟨ret_b (unhide HF).symm, (unhide HCL w3 hB3).1⟩
  | false =>
    have H1 := hide h1
    rw [h1] at HC1
    clear h1
    have HF : Hid (kidR 57 l n = false) := by show kidR 57 l n = _; simp [kidR, funcR, unhide HNK, unhide H1]
    go_enter Tryz.func80, Tryz.ntmps80
    go_wp2_with (first | (go_at_call 109; refine (unhide HC1).mono ?_; rintro e w3 ⟨rfl, hB3⟩; obtain ⟨y00, y01, y02, y03, y04, y05⟩ := unhide HCL w3 hB3))
    go_ret
    exact ⟨ret_b (unhide HF).symm, (unhide HCL w3 hB3).1⟩
set_option maxRecDepth 100000 in
set_option maxHeartbeats 2000000 in
theorem arm_60 (W : World) (M : Nat) (v : Value) (l : List Nd) (n : Nat) (hN : Nodes W M v l) (hM : M ≤ W.heap.size) (hn : n < l.length) (hk : (nd l n).kind = 60) :
    Calls Tryz.prog 80 #[.agg #[v], .int .i64 (n : Int)] W fun e w' => e = .returned (.bool (kidR 60 l n)) ∧ Below W.heap.size W w' := by
  obtain ⟨bb, o, cap, ka, kc, W1, W2, rfl, hW1, hW2, hc1, hc2, hl1, hkl, HKA, hkc, hkm, ⟨c0, d0, d1, d2, d3, d4, s1, s2⟩, HCL, HREF, HB0⟩ := arm_start W M v l n hN hM hn
  obtain ⟨z0, z1, z2, z3, z4, z5⟩ := unhide HCL W2 (unhide HB0)
  have HZ0 := hide z0
  rw [hk] at hW2 d0 z2 HCL
  have hlt : (n : Int) < l.length := by omega
  have hn0 : (0 : Int) ≤ (n : Int) := by omega
  obtain ⟨nk, hnk⟩ : ∃ nk, (nd l n).kids.length = nk := ⟨_, rfl⟩
  have HNK := hide hnk
  rw [hnk] at hW2 d3 z3 HCL hkl hkc
  clear hN hk hnk z0
  have hBB := unhide HB0
  have HC1 : Hid (Calls Tryz.prog 109 #[.agg #[.slice (some ⟨bb, o, none⟩) l.length cap], .int .i64 (n : Int), .slice (some ⟨W2.heap.size, 0, none⟩) 1 1] (W2.alloc (.cells #[.int .i64 1000] 3)) fun e w' => e = .returned (.bool (rowR l n [1000])) ∧ Below W2.heap.size W2 w') := (unhide HREF).row W2 (unhide HB0) [1000] (by decide) (by decide)
  cases h1 : rowR l n [1000] with
  | true =>
    have H1 := hide h1
    rw [h1] at HC1
    clear h1
    have HF : Hid (kidR 60 l n = true) := by show kidR 60 l n = _; simp [kidR, funcR, unhide HNK, unhide H1]
    go_enter Tryz.func80, Tryz.ntmps80
    go_wp2_with (first | (go_at_call 109; refine (unhide HC1).mono ?_; rintro e w3 ⟨rfl, hB3⟩; obtain ⟨y00, y01, y02, y03, y04, y05⟩ := unhide HCL w3 hB3))
    go_ret
    exact ⟨ret_b (unhide HF).symm, (unhide HCL w3 hB3).1⟩
  | false =>
    have H1 := hide h1
    rw [h1] at HC1
    clear h1
    have HF : Hid (kidR 60 l n = false) := by show kidR 60 l n = _; simp [kidR, funcR, unhide HNK, unhide H1]
    go_enter Tryz.func80, Tryz.ntmps80
    go_wp2_with (first | (go_at_call 109; refine (unhide HC1).mono ?_; rintro e w3 ⟨rfl, hB3⟩; obtain ⟨y00, y01, y02, y03, y04, y05⟩ := unhide HCL w3 hB3))
    go_ret
    exact ⟨ret_b (unhide HF).symm, (unhide HCL w3 hB3).1⟩
set_option maxRecDepth 100000 in
set_option maxHeartbeats 2000000 in
theorem arm_64 (W : World) (M : Nat) (v : Value) (l : List Nd) (n : Nat) (hN : Nodes W M v l) (hM : M ≤ W.heap.size) (hn : n < l.length) (hk : (nd l n).kind = 64) :
    Calls Tryz.prog 80 #[.agg #[v], .int .i64 (n : Int)] W fun e w' => e = .returned (.bool (kidR 64 l n)) ∧ Below W.heap.size W w' := by
  obtain ⟨bb, o, cap, ka, kc, W1, W2, rfl, hW1, hW2, hc1, hc2, hl1, hkl, HKA, hkc, hkm, ⟨c0, d0, d1, d2, d3, d4, s1, s2⟩, HCL, HREF, HB0⟩ := arm_start W M v l n hN hM hn
  obtain ⟨z0, z1, z2, z3, z4, z5⟩ := unhide HCL W2 (unhide HB0)
  have HZ0 := hide z0
  rw [hk] at hW2 d0 z2 HCL
  have hlt : (n : Int) < l.length := by omega
  have hn0 : (0 : Int) ≤ (n : Int) := by omega
  obtain ⟨nk, hnk⟩ : ∃ nk, (nd l n).kids.length = nk := ⟨_, rfl⟩
  have HNK := hide hnk
  rw [hnk] at hW2 d3 z3 HCL hkl hkc
  clear hN hk hnk z0
  have hBB := unhide HB0
  have HC1 : Hid (Calls Tryz.prog 109 #[.agg #[.slice (some ⟨bb, o, none⟩) l.length cap], .int .i64 (n : Int), .slice (some ⟨W2.heap.size, 0, none⟩) 1 1] (W2.alloc (.cells #[.int .i64 1000] 3)) fun e w' => e = .returned (.bool (rowR l n [1000])) ∧ Below W2.heap.size W2 w') := (unhide HREF).row W2 (unhide HB0) [1000] (by decide) (by decide)
  cases h1 : rowR l n [1000] with
  | true =>
    have H1 := hide h1
    rw [h1] at HC1
    clear h1
    have HF : Hid (kidR 64 l n = true) := by show kidR 64 l n = _; simp [kidR, funcR, unhide HNK, unhide H1]
    go_enter Tryz.func80, Tryz.ntmps80
    go_wp2_with (first | (go_at_call 109; refine (unhide HC1).mono ?_; rintro e w3 ⟨rfl, hB3⟩; obtain ⟨y00, y01, y02, y03, y04, y05⟩ := unhide HCL w3 hB3))
    go_ret
    exact ⟨ret_b (unhide HF).symm, (unhide HCL w3 hB3).1⟩
  | false =>
    have H1 := hide h1
    rw [h1] at HC1
    clear h1
    have HF : Hid (kidR 64 l n = false) := by show kidR 64 l n = _; simp [kidR, funcR, unhide HNK, unhide H1]
    go_enter Tryz.func80, Tryz.ntmps80
    go_wp2_with (first | (go_at_call 109; refine (unhide HC1).mono ?_; rintro e w3 ⟨rfl, hB3⟩; obtain ⟨y00, y01, y02, y03, y04, y05⟩ := unhide HCL w3 hB3))
    go_ret
    exact ⟨ret_b (unhide HF).symm, (unhide HCL w3 hB3).1⟩
set_option maxRecDepth 100000 in
set_option maxHeartbeats 2000000 in
theorem arm_62 (W : World) (M : Nat) (v : Value) (l : List Nd) (n : Nat) (hN : Nodes W M v l) (hM : M ≤ W.heap.size) (hn : n < l.length) (hk : (nd l n).kind = 62) :
    Calls Tryz.prog 80 #[.agg #[v], .int .i64 (n : Int)] W fun e w' => e = .returned (.bool (kidR 62 l n)) ∧ Below W.heap.size W w' := by
  obtain ⟨bb, o, cap, ka, kc, W1, W2, rfl, hW1, hW2, hc1, hc2, hl1, hkl, HKA, hkc, hkm, ⟨c0, d0, d1, d2, d3, d4, s1, s2⟩, HCL, HREF, HB0⟩ := arm_start W M v l n hN hM hn
  obtain ⟨z0, z1, z2, z3, z4, z5⟩ := unhide HCL W2 (unhide HB0)
  have HZ0 := hide z0
  rw [hk] at hW2 d0 z2 HCL
  have hlt : (n : Int) < l.length := by omega
  have hn0 : (0 : Int) ≤ (n : Int) := by omega
  obtain ⟨nk, hnk⟩ : ∃ nk, (nd l n).kids.length = nk := ⟨_, rfl⟩
  have HNK := hide hnk
  rw [hnk] at hW2 d3 z3 HCL hkl hkc
  clear hN hk hnk z0
  have hBB := unhide HB0
  have HC1 : Hid (Calls Tryz.prog 109 #[.agg #[.slice (some ⟨bb, o, none⟩) l.length cap], .int .i64 (n : Int), .slice (some ⟨W2.heap.size, 0, none⟩) 1 1] (W2.alloc (.cells #[.int .i64 63] 3)) fun e w' => e = .returned (.bool (rowR l n [63])) ∧ Below W2.heap.size W2 w') := (unhide HREF).row W2 (unhide HB0) [63] (by decide) (by decide)
  cases h1 : rowR l n [63] with
  | true =>
    have H1 := hide h1
    rw [h1] at HC1
    clear h1
    have HF : Hid (kidR 62 l n = true) := by show kidR 62 l n = _; simp [kidR, funcR, unhide HNK, unhide H1]
    go_enter Tryz.func80, Tryz.ntmps80
    go_wp2_with (first | (go_at_call 109; refine (unhide HC1).mono ?_; rintro e w3 ⟨rfl, hB3⟩; obtain ⟨y00, y01, y02, y03, y04, y05⟩ := unhide HCL w3 hB3))
    go_ret
    exact ⟨ret_b (unhide HF).symm, (unhide HCL w3 hB3).1⟩
  | false =>
    have H1 := hide h1
    rw [h1] at HC1
    clear h1
    have HF : Hid (kidR 62 l n = false) := by show kidR 62 l n = _; simp [kidR, funcR, unhide HNK, unhide H1]
    go_enter Tryz.func80, Tryz.ntmps80
    go_wp2_with (first | (go_at_call 109; refine (unhide HC1).mono ?_; rintro e w3 ⟨rfl, hB3⟩; obtain ⟨y00, y01, y02, y03, y04, y05⟩ := unhide HCL w3 hB3))
    go_ret
    exact ⟨ret_b (unhide HF).symm, (unhide HCL w3 hB3).1⟩
set_option maxRecDepth 100000 in
set_option maxHeartbeats 2000000 in
theorem arm_1 (W : World) (M : Nat) (v : Value) (l : List Nd) (n : Nat) (hN : Nodes W M v l) (hM : M ≤ W.heap.size) (hn : n < l.length) (hk : (nd l n).kind = 1) :
    Calls Tryz.prog 80 #[.agg #[v], .int .i64 (n : Int)] W fun e w' => e = .returned (.bool (kidR 1 l n)) ∧ Below W.heap.size W w' := by
  obtain ⟨bb, o, cap, ka, kc, W1, W2, rfl, hW1, hW2, hc1, hc2, hl1, hkl, HKA, hkc, hkm, ⟨c0, d0, d1, d2, d3, d4, s1, s2⟩, HCL, HREF, HB0⟩ := arm_start W M v l n hN hM hn
  obtain ⟨z0, z1, z2, z3, z4, z5⟩ := unhide HCL W2 (unhide HB0)
  have HZ0 := hide z0
  rw [hk] at hW2 d0 z2 HCL
  have hlt : (n : Int) < l.length := by omega
  have hn0 : (0 : Int) ≤ (n : Int) := by omega
  obtain ⟨nk, hnk⟩ : ∃ nk, (nd l n).kids.length = nk := ⟨_, rfl⟩
  have HNK := hide hnk
  rw [hnk] at hW2 d3 z3 HCL hkl hkc
  clear hN hk hnk z0
  have hBB := unhide HB0
  by_cases h1 : nk = 0
  case pos =>
    have g1_h1 : (nk : Int) = 0 := by omega
    have H1 := hide h1
    clear h1
    have HF : Hid (kidR 1 l n = true) := by show kidR 1 l n = _; simp [kidR, funcR, unhide HNK, unhide H1]
    go_enter Tryz.func80, Tryz.ntmps80
    go_wp2
    go_ret
    exact ⟨ret_b (unhide HF).symm, unhide HZ0⟩
  case neg =>
    have g1_h1 : ¬ (nk : Int) = 0 := by omega
    have gb1_h1 : ((nk : Int) == 0) = false := by simpa using g1_h1
    have H1 := hide h1
    clear h1
    have HF : Hid (kidR 1 l n = false) := by show kidR 1 l n = _; simp [kidR, funcR, unhide HNK, unhide H1]
    go_enter Tryz.func80, Tryz.ntmps80
    go_wp2
    go_ret
    exact ⟨ret_b (unhide HF).symm, unhide HZ0⟩
set_option maxRecDepth 100000 in
set_option maxHeartbeats 2000000 in
theorem arm_58 (W : World) (M : Nat) (v : Value) (l : List Nd) (n : Nat) (hN : Nodes W M v l) (hM : M ≤ W.heap.size) (hn : n < l.length) (hk : (nd l n).kind = 58) :
    Calls Tryz.prog 80 #[.agg #[v], .int .i64 (n : Int)] W fun e w' => e = .returned (.bool (kidR 58 l n)) ∧ Below W.heap.size W w' := by
  obtain ⟨bb, o, cap, ka, kc, W1, W2, rfl, hW1, hW2, hc1, hc2, hl1, hkl, HKA, hkc, hkm, ⟨c0, d0, d1, d2, d3, d4, s1, s2⟩, HCL, HREF, HB0⟩ := arm_start W M v l n hN hM hn
  obtain ⟨z0, z1, z2, z3, z4, z5⟩ := unhide HCL W2 (unhide HB0)
  have HZ0 := hide z0
  rw [hk] at hW2 d0 z2 HCL
  have hlt : (n : Int) < l.length := by omega
  have hn0 : (0 : Int) ≤ (n : Int) := by omega
  obtain ⟨nk, hnk⟩ : ∃ nk, (nd l n).kids.length = nk := ⟨_, rfl⟩
  have HNK := hide hnk
  rw [hnk] at hW2 d3 z3 HCL hkl hkc
  clear hN hk hnk z0
  have hBB := unhide HB0
  by_cases h1 : nk = 0
  case pos =>
    have g1_h1 : (nk : Int) = 0 := by omega
    have H1 := hide h1
    clear h1
    have HF : Hid (kidR 58 l n = true) := by show kidR 58 l n = _; simp [kidR, funcR, unhide HNK, unhide H1]
    go_enter Tryz.func80, Tryz.ntmps80
    go_wp2
    go_ret
    exact ⟨ret_b (unhide HF).symm, unhide HZ0⟩
  case neg =>
    have g1_h1 : ¬ (nk : Int) = 0 := by omega
    have gb1_h1 : ((nk : Int) == 0) = false := by simpa using g1_h1
    have H1 := hide h1
    clear h1
    have HF : Hid (kidR 58 l n = false) := by show kidR 58 l n = _; simp [kidR, funcR, unhide HNK, unhide H1]
    go_enter Tryz.func80, Tryz.ntmps80
    go_wp2
    go_ret
    exact ⟨ret_b (unhide HF).symm, unhide HZ0⟩
set_option maxRecDepth 100000 in
set_option maxHeartbeats 2000000 in
theorem arm_59 (W : World) (M : Nat) (v : Value) (l : List Nd) (n : Nat) (hN : Nodes W M v l) (hM : M ≤ W.heap.size) (hn : n < l.length) (hk : (nd l n).kind = 59) :
    Calls Tryz.prog 80 #[.agg #[v], .int .i64 (n : Int)] W fun e w' => e = .returned (.bool (kidR 59 l n)) ∧ Below W.heap.size W w' := by
  obtain ⟨bb, o, cap, ka, kc, W1, W2, rfl, hW1, hW2, hc1, hc2, hl1, hkl, HKA, hkc, hkm, ⟨c0, d0, d1, d2, d3, d4, s1, s2⟩, HCL, HREF, HB0⟩ := arm_start W M v l n hN hM hn
  obtain ⟨z0, z1, z2, z3, z4, z5⟩ := unhide HCL W2 (unhide HB0)
  have HZ0 := hide z0
  rw [hk] at hW2 d0 z2 HCL
  have hlt : (n : Int) < l.length := by omega
  have hn0 : (0 : Int) ≤ (n : Int) := by omega
  obtain ⟨nk, hnk⟩ : ∃ nk, (nd l n).kids.length = nk := ⟨_, rfl⟩
  have HNK := hide hnk
  rw [hnk] at hW2 d3 z3 HCL hkl hkc
  clear hN hk hnk z0
  have hBB := unhide HB0
  by_cases h1 : nk = 0
  case pos =>
    have g1_h1 : (nk : Int) = 0 := by omega
    have H1 := hide h1
    clear h1
    have HF : Hid (kidR 59 l n = true) := by show kidR 59 l n = _; simp [kidR, funcR, unhide HNK, unhide H1]
    go_enter Tryz.func80, Tryz.ntmps80
    go_wp2
    go_ret
    exact ⟨ret_b (unhide HF).symm, unhide HZ0⟩
  case neg =>
    have g1_h1 : ¬ (nk : Int) = 0 := by omega
    have gb1_h1 : ((nk : Int) == 0) = false := by simpa using g1_h1
    have H1 := hide h1
    clear h1
    have HF : Hid (kidR 59 l n = false) := by show kidR 59 l n = _; simp [kidR, funcR, unhide HNK, unhide H1]
    go_enter Tryz.func80, Tryz.ntmps80
    go_wp2
    go_ret
    exact ⟨ret_b (unhide HF).symm, unhide HZ0⟩
set_option maxRecDepth 100000 in
set_option maxHeartbeats 2000000 in
theorem arm_65 (W : World) (M : Nat) (v : Value) (l : List Nd) (n : Nat) (hN : Nodes W M v l) (hM : M ≤ W.heap.size) (hn : n < l.length) (hk : (nd l n).kind = 65) :
    Calls Tryz.prog 80 #[.agg #[v], .int .i64 (n : Int)] W fun e w' => e = .returned (.bool (kidR 65 l n)) ∧ Below W.heap.size W w' := by
  obtain ⟨bb, o, cap, ka, kc, W1, W2, rfl, hW1, hW2, hc1, hc2, hl1, hkl, HKA, hkc, hkm, ⟨c0, d0, d1, d2, d3, d4, s1, s2⟩, HCL, HREF, HB0⟩ := arm_start W M v l n hN hM hn
  obtain ⟨z0, z1, z2, z3, z4, z5⟩ := unhide HCL W2 (unhide HB0)
  have HZ0 := hide z0
  rw [hk] at hW2 d0 z2 HCL
  have hlt : (n : Int) < l.length := by omega
  have hn0 : (0 : Int) ≤ (n : Int) := by omega
  obtain ⟨nk, hnk⟩ : ∃ nk, (nd l n).kids.length = nk := ⟨_, rfl⟩
  have HNK := hide hnk
  rw [hnk] at hW2 d3 z3 HCL hkl hkc
  clear hN hk hnk z0
  have hBB := unhide HB0
  by_cases h1 : nk = 0
  case pos =>
    have g1_h1 : (nk : Int) = 0 := by omega
    have H1 := hide h1
    clear h1
    have HF : Hid (kidR 65 l n = true) := by show kidR 65 l n = _; simp [kidR, funcR, unhide HNK, unhide H1]
    go_enter Tryz.func80, Tryz.ntmps80
    go_wp2
    go_ret
    exact ⟨ret_b (unhide HF).symm, unhide HZ0⟩
  case neg =>
    have g1_h1 : ¬ (nk : Int) = 0 := by omega
    have gb1_h1 : ((nk : Int) == 0) = false := by simpa using g1_h1
    have H1 := hide h1
    clear h1
    have HF : Hid (kidR 65 l n = false) := by show kidR 65 l n = _; simp [kidR, funcR, unhide HNK, unhide H1]
    go_enter Tryz.func80, Tryz.ntmps80
    go_wp2
    go_ret
    exact ⟨ret_b (unhide HF).symm, unhide HZ0⟩
set_option maxRecDepth 100000 in
set_option maxHeartbeats 2000000 in
theorem arm_53 (W : World) (M : Nat) (v : Value) (l : List Nd) (n : Nat) (hN : Nodes W M v l) (hM : M ≤ W.heap.size) (hn : n < l.length) (hk : (nd l n).kind = 53) :
    Calls Tryz.prog 80 #[.agg #[v], .int .i64 (n : Int)] W fun e w' => e = .returned (.bool (kidR 53 l n)) ∧ Below W.heap.size W w' := by
  obtain ⟨bb, o, cap, ka, kc, W1, W2, rfl, hW1, hW2, hc1, hc2, hl1, hkl, HKA, hkc, hkm, ⟨c0, d0, d1, d2, d3, d4, s1, s2⟩, HCL, HREF, HB0⟩ := arm_start W M v l n hN hM hn
  obtain ⟨z0, z1, z2, z3, z4, z5⟩ := unhide HCL W2 (unhide HB0)
  have HZ0 := hide z0
  rw [hk] at hW2 d0 z2 HCL
  have hlt : (n : Int) < l.length := by omega
  have hn0 : (0 : Int) ≤ (n : Int) := by omega
  obtain ⟨nk, hnk⟩ : ∃ nk, (nd l n).kids.length = nk := ⟨_, rfl⟩
  have HNK := hide hnk
  obtain ⟨x0, hx0⟩ : ∃ x, kidN l n 0 = x := ⟨_, rfl⟩
  have HKD0 : Hid (∀ w, Below W2.heap.size W2 w → Calls Tryz.prog 111 #[.agg #[.slice (some ⟨bb, o, none⟩) l.length cap], .int .i64 (n : Int), .int .i64 0] w fun e w' => ∃ a c, e = .returned (ndV x0 a c) ∧ KidsAt w' M a x0.kids ∧ x0.kids.length ≤ c ∧ c ≤ maxLen ∧ Below W2.heap.size W2 w') := fun w hw => by rw [← hx0]; exact (unhide HREF).kid w hw 0 (by decide)
  have HX0 := hide hx0
  clear hx0
  obtain ⟨x1, hx1⟩ : ∃ x, kidN l n 1 = x := ⟨_, rfl⟩
  have HKD1 : Hid (∀ w, Below W2.heap.size W2 w → Calls Tryz.prog 111 #[.agg #[.slice (some ⟨bb, o, none⟩) l.length cap], .int .i64 (n : Int), .int .i64 1] w fun e w' => ∃ a c, e = .returned (ndV x1 a c) ∧ KidsAt w' M a x1.kids ∧ x1.kids.length ≤ c ∧ c ≤ maxLen ∧ Below W2.heap.size W2 w') := fun w hw => by rw [← hx1]; exact (unhide HREF).kid w hw 1 (by decide)
  have HX1 := hide hx1
  clear hx1
  obtain ⟨x2, hx2⟩ : ∃ x, kidN l n 2 = x := ⟨_, rfl⟩
  have HKD2 : Hid (∀ w, Below W2.heap.size W2 w → Calls Tryz.prog 111 #[.agg #[.slice (some ⟨bb, o, none⟩) l.length cap], .int .i64 (n : Int), .int .i64 2] w fun e w' => ∃ a c, e = .returned (ndV x2 a c) ∧ KidsAt w' M a x2.kids ∧ x2.kids.length ≤ c ∧ c ≤ maxLen ∧ Below W2.heap.size W2 w') := fun w hw => by rw [← hx2]; exact (unhide HREF).kid w hw 2 (by decide)
  have HX2 := hide hx2
  clear hx2
  rw [hnk] at hW2 d3 z3 HCL hkl hkc
  clear hN hk hnk z0
  have hBB := unhide HB0
  by_cases h2 : nk = 3
  case pos =>
    have g2_h2 : (nk : Int) = 3 := by omega
    have H2 := hide h2
    clear h2
    have HC4 : Hid (∀ w, Below W2.heap.size W2 w → Calls Tryz.prog 28 #[.int .i64 x0.kind] w fun e w' => e = .returned (.bool (isE x0.kind)) ∧ Below W2.heap.size W2 w') := fun w hw => (rExpr_any x0.kind w).mono fun e w' h => ⟨h.1, by rw [h.2]; exact hw⟩
    cases h4 : isE x0.kind with
    | true =>
      have H4 := hide h4
      rw [h4] at HC4
      clear h4
      cases h6 : (x1.kind == 63) with
      | true =>
        have H6 := hide h6
        cases h7 : (x2.kind == 63) with
        | true =>
          have H7 := hide h7
          have HF : Hid (kidR 53 l n = true) := by show kidR 53 l n = _; simp [kidR, funcR, unhide HNK, unhide HX0, unhide HX1, unhide HX2, unhide H2, unhide H4, unhide H6, unhide H7]
          go_enter Tryz.func80, Tryz.ntmps80
          go_wp2_with (first | (go_at_call_of 111 (2 : Int); refine (unhide HKD2 _ (by assumption)).mono ?_; rintro e w3 ⟨a23, c23, he3, _, _, _, hB3⟩; simp only [ndV] at he3; subst he3; obtain ⟨y00, y01, y02, y03, y04, y05⟩ := unhide HCL w3 hB3) | (go_at_call_of 111 (0 : Int); refine (unhide HKD0 _ (by assumption)).mono ?_; rintro e w4 ⟨a04, c04, he4, _, _, _, hB4⟩; simp only [ndV] at he4; subst he4; obtain ⟨y10, y11, y12, y13, y14, y15⟩ := unhide HCL w4 hB4) | (go_at_call 28; refine (unhide HC4 _ (by assumption)).mono ?_; rintro e w5 ⟨rfl, hB5⟩; obtain ⟨y20, y21, y22, y23, y24, y25⟩ := unhide HCL w5 hB5) | (go_at_call_of 111 (1 : Int); refine (unhide HKD1 _ (by assumption)).mono ?_; rintro e w6 ⟨a16, c16, he6, _, _, _, hB6⟩; simp only [ndV] at he6; subst he6; obtain ⟨y30, y31, y32, y33, y34, y35⟩ := unhide HCL w6 hB6))
          go_ret
          exact ⟨ret_b (unhide HF).symm, (unhide HCL w6 hB6).1⟩
        | false =>
          have H7 := hide h7
          cases h8 : (x2.kind == 53) with
          | true =>
            have H8 := hide h8
            have HF : Hid (kidR 53 l n = true) := by show kidR 53 l n = _; simp [kidR, funcR, unhide HNK, unhide HX0, unhide HX1, unhide HX2, unhide H2, unhide H4, unhide H6, unhide H7, unhide H8]
            go_enter Tryz.func80, Tryz.ntmps80
            go_wp2_with (first | (go_at_call_of 111 (2 : Int); refine (unhide HKD2 _ (by assumption)).mono ?_; rintro e w3 ⟨a23, c23, he3, _, _, _, hB3⟩; simp only [ndV] at he3; subst he3; obtain ⟨y00, y01, y02, y03, y04, y05⟩ := unhide HCL w3 hB3) | (go_at_call_of 111 (0 : Int); refine (unhide HKD0 _ (by assumption)).mono ?_; rintro e w4 ⟨a04, c04, he4, _, _, _, hB4⟩; simp only [ndV] at he4; subst he4; obtain ⟨y10, y11, y12, y13, y14, y15⟩ := unhide HCL w4 hB4) | (go_at_call 28; refine (unhide HC4 _ (by assumption)).mono ?_; rintro e w5 ⟨rfl, hB5⟩; obtain ⟨y20, y21, y22, y23, y24, y25⟩ := unhide HCL w5 hB5) | (go_at_call_of 111 (1 : Int); refine (unhide HKD1 _ (by assumption)).mono ?_; rintro e w6 ⟨a16, c16, he6, _, _, _, hB6⟩; simp only [ndV] at he6; subst he6; obtain ⟨y30, y31, y32, y33, y34, y35⟩ := unhide HCL w6 hB6))
            go_ret
            exact ⟨ret_b (unhide HF).symm, (unhide HCL w6 hB6).1⟩
          | false =>
            have H8 := hide h8
            cases h9 : (x2.kind == 1) with
            | true =>
              have H9 := hide h9
              have HF : Hid (kidR 53 l n = true) := by show kidR 53 l n = _; simp [kidR, funcR, unhide HNK, unhide HX0, unhide HX1, unhide HX2, unhide H2, unhide H4, unhide H6, unhide H7, unhide H8, unhide H9]
              go_enter Tryz.func80, Tryz.ntmps80
              go_wp2_with (first | (go_at_call_of 111 (2 : Int); refine (unhide HKD2 _ (by assumption)).mono ?_; rintro e w3 ⟨a23, c23, he3, _, _, _, hB3⟩; simp only [ndV] at he3; subst he3; obtain ⟨y00, y01, y02, y03, y04, y05⟩ := unhide HCL w3 hB3) | (go_at_call_of 111 (0 : Int); refine (unhide HKD0 _ (by assumption)).mono ?_; rintro e w4 ⟨a04, c04, he4, _, _, _, hB4⟩; simp only [ndV] at he4; subst he4; obtain ⟨y10, y11, y12, y13, y14, y15⟩ := unhide HCL w4 hB4) | (go_at_call 28; refine (unhide HC4 _ (by assumption)).mono ?_; rintro e w5 ⟨rfl, hB5⟩; obtain ⟨y20, y21, y22, y23, y24, y25⟩ := unhide HCL w5 hB5) | (go_at_call_of 111 (1 : Int); refine (unhide HKD1 _ (by assumption)).mono ?_; rintro e w6 ⟨a16, c16, he6, _, _, _, hB6⟩; simp only [ndV] at he6; subst he6; obtain ⟨y30, y31, y32, y33, y34, y35⟩ := unhide HCL w6 hB6))
              go_ret
              exact ⟨ret_b (unhide HF).symm, (unhide HCL w6 hB6).1⟩
            | false =>
              have H9 := hide h9
              have HF : Hid (kidR 53 l n = false) := by show kidR 53 l n = _; simp [kidR, funcR, unhide HNK, unhide HX0, unhide HX1, unhide HX2, unhide H2, unhide H4, unhide H6, unhide H7, unhide H8, unhide H9]
              go_enter Tryz.func80, Tryz.ntmps80
              go_wp2_with (first | (go_at_call_of 111 (2 : Int); refine (unhide HKD2 _ (by assumption)).mono ?_; rintro e w3 ⟨a23, c23, he3, _, _, _, hB3⟩; simp only [ndV] at he3; subst he3; obtain ⟨y00, y01, y02, y03, y04, y05⟩ := unhide HCL w3 hB3) | (go_at_call_of 111 (0 : Int); refine (unhide HKD0 _ (by assumption)).mono ?_; rintro e w4 ⟨a04, c04, he4, _, _, _, hB4⟩; simp only [ndV] at he4; subst he4; obtain ⟨y10, y11, y12, y13, y14, y15⟩ := unhide HCL w4 hB4) | (go_at_call 28; refine (unhide HC4 _ (by assumption)).mono ?_; rintro e w5 ⟨rfl, hB5⟩; obtain ⟨y20, y21, y22, y23, y24, y25⟩ := unhide HCL w5 hB5) | (go_at_call_of 111 (1 : Int); refine (unhide HKD1 _ (by assumption)).mono ?_; rintro e w6 ⟨a16, c16, he6, _, _, _, hB6⟩; simp only [ndV] at he6; subst he6; obtain ⟨y30, y31, y32, y33, y34, y35⟩ := unhide HCL w6 hB6))
              go_ret
              exact ⟨ret_b (unhide HF).symm, (unhide HCL w6 hB6).1⟩
      | false =>
        have H6 := hide h6
        have HF : Hid (kidR 53 l n = false) := by show kidR 53 l n = _; simp [kidR, funcR, unhide HNK, unhide HX0, unhide HX1, unhide HX2, unhide H2, unhide H4, unhide H6]
        go_enter Tryz.func80, Tryz.ntmps80
        go_wp2_with (first | (go_at_call_of 111 (2 : Int); refine (unhide HKD2 _ (by assumption)).mono ?_; rintro e w3 ⟨a23, c23, he3, _, _, _, hB3⟩; simp only [ndV] at he3; subst he3; obtain ⟨y00, y01, y02, y03, y04, y05⟩ := unhide HCL w3 hB3) | (go_at_call_of 111 (0 : Int); refine (unhide HKD0 _ (by assumption)).mono ?_; rintro e w4 ⟨a04, c04, he4, _, _, _, hB4⟩; simp only [ndV] at he4; subst he4; obtain ⟨y10, y11, y12, y13, y14, y15⟩ := unhide HCL w4 hB4) | (go_at_call 28; refine (unhide HC4 _ (by assumption)).mono ?_; rintro e w5 ⟨rfl, hB5⟩; obtain ⟨y20, y21, y22, y23, y24, y25⟩ := unhide HCL w5 hB5) | (go_at_call_of 111 (1 : Int); refine (unhide HKD1 _ (by assumption)).mono ?_; rintro e w6 ⟨a16, c16, he6, _, _, _, hB6⟩; simp only [ndV] at he6; subst he6; obtain ⟨y30, y31, y32, y33, y34, y35⟩ := unhide HCL w6 hB6))
        go_ret
        exact ⟨ret_b (unhide HF).symm, (unhide HCL w6 hB6).1⟩
    | false =>
      have H4 := hide h4
      rw [h4] at HC4
      clear h4
      have HF : Hid (kidR 53 l n = false) := by show kidR 53 l n = _; simp [kidR, funcR, unhide HNK, unhide HX0, unhide HX1, unhide HX2, unhide H2, unhide H4]
      go_enter Tryz.func80, Tryz.ntmps80
      go_wp2_with (first | (go_at_call_of 111 (2 : Int); refine (unhide HKD2 _ (by assumption)).mono ?_; rintro e w3 ⟨a23, c23, he3, _, _, _, hB3⟩; simp only [ndV] at he3; subst he3; obtain ⟨y00, y01, y02, y03, y04, y05⟩ := unhide HCL w3 hB3) | (go_at_call_of 111 (0 : Int); refine (unhide HKD0 _ (by assumption)).mono ?_; rintro e w4 ⟨a04, c04, he4, _, _, _, hB4⟩; simp only [ndV] at he4; subst he4; obtain ⟨y10, y11, y12, y13, y14, y15⟩ := unhide HCL w4 hB4) | (go_at_call 28; refine (unhide HC4 _ (by assumption)).mono ?_; rintro e w5 ⟨rfl, hB5⟩; obtain ⟨y20, y21, y22, y23, y24, y25⟩ := unhide HCL w5 hB5))
      go_ret
      exact ⟨ret_b (unhide HF).symm, (unhide HCL w5 hB5).1⟩
  case neg =>
    have g9_h2 : ¬ (nk : Int) = 3 := by omega
    have gb9_h2 : ((nk : Int) == 3) = false := by simpa using g9_h2
    have H2 := hide h2
    clear h2
    have HF : Hid (kidR 53 l n = false) := by show kidR 53 l n = _; simp [kidR, funcR, unhide HNK, unhide HX0, unhide HX1, unhide HX2, unhide H2]
    go_enter Tryz.func80, Tryz.ntmps80
    go_wp2_with (first | (go_at_call_of 111 (2 : Int); refine (unhide HKD2 _ (by assumption)).mono ?_; rintro e w3 ⟨a23, c23, he3, _, _, _, hB3⟩; simp only [ndV] at he3; subst he3; obtain ⟨y00, y01, y02, y03, y04, y05⟩ := unhide HCL w3 hB3))
    go_ret
    exact ⟨ret_b (unhide HF).symm, (unhide HCL w3 hB3).1⟩
set_option maxRecDepth 100000 in
set_option maxHeartbeats 2000000 in
theorem arm_55 (W : World) (M : Nat) (v : Value) (l : List Nd) (n : Nat) (hN : Nodes W M v l) (hM : M ≤ W.heap.size) (hn : n < l.length) (hk : (nd l n).kind = 55) :
    Calls Tryz.prog 80 #[.agg #[v], .int .i64 (n : Int)] W fun e w' => e = .returned (.bool (kidR 55 l n)) ∧ Below W.heap.size W w' := by
  obtain ⟨bb, o, cap, ka, kc, W1, W2, rfl, hW1, hW2, hc1, hc2, hl1, hkl, HKA, hkc, hkm, ⟨c0, d0, d1, d2, d3, d4, s1, s2⟩, HCL, HREF, HB0⟩ := arm_start W M v l n hN hM hn
  obtain ⟨z0, z1, z2, z3, z4, z5⟩ := unhide HCL W2 (unhide HB0)
  have HZ0 := hide z0
  rw [hk] at hW2 d0 z2 HCL
  have hlt : (n : Int) < l.length := by omega
  have hn0 : (0 : Int) ≤ (n : Int) := by omega
  obtain ⟨nk, hnk⟩ : ∃ nk, (nd l n).kids.length = nk := ⟨_, rfl⟩
  have HNK := hide hnk
  obtain ⟨x0, hx0⟩ : ∃ x, kidN l n 0 = x := ⟨_, rfl⟩
  have HKD0 : Hid (∀ w, Below W2.heap.size W2 w → Calls Tryz.prog 111 #[.agg #[.slice (some ⟨bb, o, none⟩) l.length cap], .int .i64 (n : Int), .int .i64 0] w fun e w' => ∃ a c, e = .returned (ndV x0 a c) ∧ KidsAt w' M a x0.kids ∧ x0.kids.length ≤ c ∧ c ≤ maxLen ∧ Below W2.heap.size W2 w') := fun w hw => by rw [← hx0]; exact (unhide HREF).kid w hw 0 (by decide)
  have HX0 := hide hx0
  clear hx0
  rw [hnk] at hW2 d3 z3 HCL hkl hkc
  clear hN hk hnk z0
  have hBB := unhide HB0
  have HC1 : Hid (Calls Tryz.prog 109 #[.agg #[.slice (some ⟨bb, o, none⟩) l.length cap], .int .i64 (n : Int), .slice (some ⟨W2.heap.size, 0, none⟩) 4 4] (W2.alloc (.cells #[.int .i64 (-40), .int .i64 (-1000), .int .i64 (-1000), .int .i64 63] 3)) fun e w' => e = .returned (.bool (rowR l n [-40, -1000, -1000, 63])) ∧ Below W2.heap.size W2 w') := (unhide HREF).row W2 (unhide HB0) [-40, -1000, -1000, 63] (by decide) (by decide)
  cases h1 : rowR l n [-40, -1000, -1000, 63] with
  | true =>
    have H1 := hide h1
    rw [h1] at HC1
    clear h1
    cases h3 : (x0.kind == 1) with
    | true =>
      have H3 := hide h3
      have HF : Hid (kidR 55 l n = true) := by show kidR 55 l n = _; simp [kidR, funcR, unhide HNK, unhide HX0, unhide H1, unhide H3]
      go_enter Tryz.func80, Tryz.ntmps80
      go_wp2_with (first | (go_at_call 109; refine (unhide HC1).mono ?_; rintro e w3 ⟨rfl, hB3⟩; obtain ⟨y00, y01, y02, y03, y04, y05⟩ := unhide HCL w3 hB3) | (go_at_call_of 111 (0 : Int); refine (unhide HKD0 _ (by assumption)).mono ?_; rintro e w4 ⟨a04, c04, he4, _, _, _, hB4⟩; simp only [ndV] at he4; subst he4; obtain ⟨y10, y11, y12, y13, y14, y15⟩ := unhide HCL w4 hB4))
      go_ret
      exact ⟨ret_b (unhide HF).symm, (unhide HCL w4 hB4).1⟩
    | false =>
      have H3 := hide h3
      cases h5 : (x0.num == 0) with
      | true =>
        have H5 := hide h5
        have HF : Hid (kidR 55 l n = true) := by show kidR 55 l n = _; simp [kidR, funcR, unhide HNK, unhide HX0, unhide H1, unhide H3, unhide H5]
        go_enter Tryz.func80, Tryz.ntmps80
        go_wp2_with (first | (go_at_call 109; refine (unhide HC1).mono ?_; rintro e w3 ⟨rfl, hB3⟩; obtain ⟨y00, y01, y02, y03, y04, y05⟩ := unhide HCL w3 hB3) | (go_at_call_of 111 (0 : Int); refine (unhide HKD0 _ (by assumption)).mono ?_; rintro e w4 ⟨a04, c04, he4, _, _, _, hB4⟩; simp only [ndV] at he4; subst he4; obtain ⟨y10, y11, y12, y13, y14, y15⟩ := unhide HCL w4 hB4))
        go_ret
        exact ⟨ret_b (unhide HF).symm, (unhide HCL w4 hB4).1⟩
      | false =>
        have H5 := hide h5
        have HF : Hid (kidR 55 l n = false) := by show kidR 55 l n = _; simp [kidR, funcR, unhide HNK, unhide HX0, unhide H1, unhide H3, unhide H5]
        go_enter Tryz.func80, Tryz.ntmps80
        go_wp2_with (first | (go_at_call 109; refine (unhide HC1).mono ?_; rintro e w3 ⟨rfl, hB3⟩; obtain ⟨y00, y01, y02, y03, y04, y05⟩ := unhide HCL w3 hB3) | (go_at_call_of 111 (0 : Int); refine (unhide HKD0 _ (by assumption)).mono ?_; rintro e w4 ⟨a04, c04, he4, _, _, _, hB4⟩; simp only [ndV] at he4; subst he4; obtain ⟨y10, y11, y12, y13, y14, y15⟩ := unhide HCL w4 hB4))
        go_ret
        exact ⟨ret_b (unhide HF).symm, (unhide HCL w4 hB4).1⟩
  | false =>
    have H1 := hide h1
    rw [h1] at HC1
    clear h1
    have HF : Hid (kidR 55 l n = false) := by show kidR 55 l n = _; simp [kidR, funcR, unhide HNK, unhide HX0, unhide H1]
    go_enter Tryz.func80, Tryz.ntmps80
    go_wp2_with (first | (go_at_call 109; refine (unhide HC1).mono ?_; rintro e w3 ⟨rfl, hB3⟩; obtain ⟨y00, y01, y02, y03, y04, y05⟩ := unhide HCL w3 hB3))
    go_ret
    exact ⟨ret_b (unhide HF).symm, (unhide HCL w3 hB3).1⟩
set_option maxRecDepth 100000 in
set_option maxHeartbeats 2000000 in
theorem arm_61 (W : World) (M : Nat) (v : Value) (l : List Nd) (n : Nat) (hN : Nodes W M v l) (hM : M ≤ W.heap.size) (hn : n < l.length) (hk : (nd l n).kind = 61) :
    Calls Tryz.prog 80 #[.agg #[v], .int .i64 (n : Int)] W fun e w' => e = .returned (.bool (kidR 61 l n)) ∧ Below W.heap.size W w' := by
  obtain ⟨bb, o, cap, ka, kc, W1, W2, rfl, hW1, hW2, hc1, hc2, hl1, hkl, HKA, hkc, hkm, ⟨c0, d0, d1, d2, d3, d4, s1, s2⟩, HCL, HREF, HB0⟩ := arm_start W M v l n hN hM hn
  obtain ⟨z0, z1, z2, z3, z4, z5⟩ := unhide HCL W2 (unhide HB0)
  have HZ0 := hide z0
  rw [hk] at hW2 d0 z2 HCL
  have hlt : (n : Int) < l.length := by omega
  have hn0 : (0 : Int) ≤ (n : Int) := by omega
  obtain ⟨nk, hnk⟩ : ∃ nk, (nd l n).kids.length = nk := ⟨_, rfl⟩
  have HNK := hide hnk
  obtain ⟨x1, hx1⟩ : ∃ x, kidN l n 1 = x := ⟨_, rfl⟩
  have HKD1 : Hid (∀ w, Below W2.heap.size W2 w → Calls Tryz.prog 111 #[.agg #[.slice (some ⟨bb, o, none⟩) l.length cap], .int .i64 (n : Int), .int .i64 1] w fun e w' => ∃ a c, e = .returned (ndV x1 a c) ∧ KidsAt w' M a x1.kids ∧ x1.kids.length ≤ c ∧ c ≤ maxLen ∧ Below W2.heap.size W2 w') := fun w hw => by rw [← hx1]; exact (unhide HREF).kid w hw 1 (by decide)
  have HX1 := hide hx1
  clear hx1
  obtain ⟨x2, hx2⟩ : ∃ x, kidN l n 2 = x := ⟨_, rfl⟩
  have HKD2 : Hid (∀ w, Below W2.heap.size W2 w → Calls Tryz.prog 111 #[.agg #[.slice (some ⟨bb, o, none⟩) l.length cap], .int .i64 (n : Int), .int .i64 2] w fun e w' => ∃ a c, e = .returned (ndV x2 a c) ∧ KidsAt w' M a x2.kids ∧ x2.kids.length ≤ c ∧ c ≤ maxLen ∧ Below W2.heap.size W2 w') := fun w hw => by rw [← hx2]; exact (unhide HREF).kid w hw 2 (by decide)
  have HX2 := hide hx2
  clear hx2
  rw [hnk] at hW2 d3 z3 HCL hkl hkc
  clear hN hk hnk z0
  have hBB := unhide HB0
  have HC1 : Hid (Calls Tryz.prog 109 #[.agg #[.slice (some ⟨bb, o, none⟩) l.length cap], .int .i64 (n : Int), .slice (some ⟨W2.heap.size, 0, none⟩) 3 3] (W2.alloc (.cells #[.int .i64 63, .int .i64 (-62), .int .i64 (-63)] 3)) fun e w' => e = .returned (.bool (rowR l n [63, -62, -63])) ∧ Below W2.heap.size W2 w') := (unhide HREF).row W2 (unhide HB0) [63, -62, -63] (by decide) (by decide)
  cases h1 : rowR l n [63, -62, -63] with
  | true =>
    have H1 := hide h1
    rw [h1] at HC1
    clear h1
    cases h3 : (x1.kind == 62) with
    | true =>
      have H3 := hide h3
      have HF : Hid (kidR 61 l n = true) := by show kidR 61 l n = _; simp [kidR, funcR, unhide HNK, unhide HX1, unhide HX2, unhide H1, unhide H3]
      go_enter Tryz.func80, Tryz.ntmps80
      go_wp2_with (first | (go_at_call 109; refine (unhide HC1).mono ?_; rintro e w3 ⟨rfl, hB3⟩; obtain ⟨y00, y01, y02, y03, y04, y05⟩ := unhide HCL w3 hB3) | (go_at_call_of 111 (1 : Int); refine (unhide HKD1 _ (by assumption)).mono ?_; rintro e w4 ⟨a14, c14, he4, _, _, _, hB4⟩; simp only [ndV] at he4; subst he4; obtain ⟨y10, y11, y12, y13, y14, y15⟩ := unhide HCL w4 hB4))
      go_ret
      exact ⟨ret_b (unhide HF).symm, (unhide HCL w4 hB4).1⟩
    | false =>
      have H3 := hide h3
      cases h5 : (x2.kind == 63) with
      | true =>
        have H5 := hide h5
        have HF : Hid (kidR 61 l n = true) := by show kidR 61 l n = _; simp [kidR, funcR, unhide HNK, unhide HX1, unhide HX2, unhide H1, unhide H3, unhide H5]
        go_enter Tryz.func80, Tryz.ntmps80
        go_wp2_with (first | (go_at_call 109; refine (unhide HC1).mono ?_; rintro e w3 ⟨rfl, hB3⟩; obtain ⟨y00, y01, y02, y03, y04, y05⟩ := unhide HCL w3 hB3) | (go_at_call_of 111 (1 : Int); refine (unhide HKD1 _ (by assumption)).mono ?_; rintro e w4 ⟨a14, c14, he4, _, _, _, hB4⟩; simp only [ndV] at he4; subst he4; obtain ⟨y10, y11, y12, y13, y14, y15⟩ := unhide HCL w4 hB4) | (go_at_call_of 111 (2 : Int); refine (unhide HKD2 _ (by assumption)).mono ?_; rintro e w5 ⟨a25, c25, he5, _, _, _, hB5⟩; simp only [ndV] at he5; subst he5; obtain ⟨y20, y21, y22, y23, y24, y25⟩ := unhide HCL w5 hB5))
        go_ret
        exact ⟨ret_b (unhide HF).symm, (unhide HCL w5 hB5).1⟩
      | false =>
        have H5 := hide h5
        have HF : Hid (kidR 61 l n = false) := by show kidR 61 l n = _; simp [kidR, funcR, unhide HNK, unhide HX1, unhide HX2, unhide H1, unhide H3, unhide H5]
        go_enter Tryz.func80, Tryz.ntmps80
        go_wp2_with (first | (go_at_call 109; refine (unhide HC1).mono ?_; rintro e w3 ⟨rfl, hB3⟩; obtain ⟨y00, y01, y02, y03, y04, y05⟩ := unhide HCL w3 hB3) | (go_at_call_of 111 (1 : Int); refine (unhide HKD1 _ (by assumption)).mono ?_; rintro e w4 ⟨a14, c14, he4, _, _, _, hB4⟩; simp only [ndV] at he4; subst he4; obtain ⟨y10, y11, y12, y13, y14, y15⟩ := unhide HCL w4 hB4) | (go_at_call_of 111 (2 : Int); refine (unhide HKD2 _ (by assumption)).mono ?_; rintro e w5 ⟨a25, c25, he5, _, _, _, hB5⟩; simp only [ndV] at he5; subst he5; obtain ⟨y20, y21, y22, y23, y24, y25⟩ := unhide HCL w5 hB5))
        go_ret
        exact ⟨ret_b (unhide HF).symm, (unhide HCL w5 hB5).1⟩
  | false =>
    have H1 := hide h1
    rw [h1] at HC1
    clear h1
    have HF : Hid (kidR 61 l n = false) := by show kidR 61 l n = _; simp [kidR, funcR, unhide HNK, unhide HX1, unhide HX2, unhide H1]
    go_enter Tryz.func80, Tryz.ntmps80
    go_wp2_with (first | (go_at_call 109; refine (unhide HC1).mono ?_; rintro e w3 ⟨rfl, hB3⟩; obtain ⟨y00, y01, y02, y03, y04, y05⟩ := unhide HCL w3 hB3))
    go_ret
    exact ⟨ret_b (unhide HF).symm, (unhide HCL w3 hB3).1⟩
end Go.Proofs.YtnnpkomedpjlcaaGreatDoor

/- The reference's function and ctors. -/
namespace Go.Proofs.YtnnpkomedpjlcaaGreatDoor
set_option linter.unusedSimpArgs false
set_option linter.unusedVariables false
open Go.RowKit

set_option maxRecDepth 100000 in
set_option maxHeartbeats 4000000 in
theorem function_any (W : World) (M : Nat) (v : Value) (l : List Nd) (n : Nat) (hN : Nodes W M v l) (hM : M ≤ W.heap.size) (hn : n < l.length) :
    Calls Tryz.prog 113 #[.agg #[v], .int .i64 (n : Int)] W fun e w' => e = .returned (.bool (funcR l n)) ∧ Below W.heap.size W w' := by
  obtain ⟨W1, hW1⟩ : ∃ W1, W.alloc (.cells #[v] 24) = W1 := ⟨_, rfl⟩
  have hz1 : W1.heap.size = W.heap.size + 1 := by rw [← hW1]; simp
  have HCL : Hid (∀ w, Below W1.heap.size W1 w → _) := fun w hw => rbox_at (v := v) (by rw [hW1]; exact hw.mono (by omega))
  have HB0 : Hid (Below W1.heap.size W1 W1) := Below.refl _ _
  have HREF : Hid (Ref W1.heap.size W1 M v l n) := ref_of hN hM hn (unhide HCL W1 (unhide HB0)).1 (by omega) (Nat.le_refl _)
  obtain ⟨k1, k2, k3⟩ := unhide HCL _ (unhide HB0)
  have HC1 : Hid (Calls Tryz.prog 109 #[.agg #[v], .int .i64 (n : Int), .slice (some ⟨W1.heap.size, 0, none⟩) 4 4] (W1.alloc (.cells #[.int .i64 2, .int .i64 2, .int .i64 (-1001), .int .i64 63] 3)) fun e w' => e = .returned (.bool (rowR l n [2, 2, -1001, 63])) ∧ Below W1.heap.size W1 w') := (unhide HREF).row W1 (unhide HB0) [2, 2, -1001, 63] (by decide) (by decide)
  have HC2 : Hid (∀ w, Below W1.heap.size W1 w → Calls Tryz.prog 108 #[.agg #[v], .int .i64 (n : Int), .int .i64 0, .int .i64 67] w fun e w' => e = .returned (.bool (listR l n 0 67)) ∧ Below W1.heap.size W1 w') := fun w hw => (unhide HREF).list w hw 0 67 (by decide)
  have HC3 : Hid (∀ w, Below W1.heap.size W1 w → Calls Tryz.prog 108 #[.agg #[v], .int .i64 (n : Int), .int .i64 1, .int .i64 1003] w fun e w' => e = .returned (.bool (listR l n 1 1003)) ∧ Below W1.heap.size W1 w') := fun w hw => (unhide HREF).list w hw 1 1003 (by decide)
  have HR : Hid (funcR l n = (rowR l n [2, 2, -1001, 63] && (listR l n 0 67 && listR l n 1 1003))) := rfl
  clear hN hz1
  cases r1 : rowR l n [2, 2, -1001, 63] with
  | false =>
    have HF : Hid (funcR l n = false) := by show funcR l n = false; rw [unhide HR, r1]; rfl
    rw [r1] at HC1
    clear r1
    go_enter Tryz.func113, Tryz.ntmps113
    go_wp2_with (go_at_call 109; refine (unhide HC1).mono ?_; rintro e w2 ⟨rfl, hB2⟩)
    go_ret
    exact ⟨ret_b (unhide HF).symm, (unhide HCL _ hB2).1⟩
  | true =>
    rw [r1] at HC1
    cases r2 : listR l n 0 67 with
    | false =>
      have HF : Hid (funcR l n = false) := by show funcR l n = false; rw [unhide HR, r1, r2]; rfl
      rw [r2] at HC2
      clear r1 r2
      go_enter Tryz.func113, Tryz.ntmps113
      go_wp2_with (first | (go_at_call 109; refine (unhide HC1).mono ?_; rintro e w2 ⟨rfl, hB2⟩; obtain ⟨y1, y2, y3⟩ := unhide HCL w2 hB2) | (go_at_call_of 108 (67 : Int); refine (unhide HC2 w2 hB2).mono ?_; rintro e w3 ⟨rfl, hB3⟩))
      go_ret
      exact ⟨ret_b (unhide HF).symm, (unhide HCL _ hB3).1⟩
    | true =>
      rw [r2] at HC2
      have HF : Hid (funcR l n = listR l n 1 1003) := by show funcR l n = _; rw [unhide HR, r1, r2]; rfl
      clear r1 r2
      go_enter Tryz.func113, Tryz.ntmps113
      go_wp2_with (first | (go_at_call 109; refine (unhide HC1).mono ?_; rintro e w2 ⟨rfl, hB2⟩; obtain ⟨y1, y2, y3⟩ := unhide HCL w2 hB2) | (go_at_call_of 108 (67 : Int); refine (unhide HC2 w2 hB2).mono ?_; rintro e w3 ⟨rfl, hB3⟩; obtain ⟨y4, y5, y6⟩ := unhide HCL w3 hB3) | (go_at_call_of 108 (1003 : Int); refine (unhide HC3 w3 hB3).mono ?_; rintro e w4 ⟨rfl, hB4⟩))
      go_ret
      exact ⟨ret_b (unhide HF).symm, (unhide HCL _ hB4).1⟩

theorem cnt_self (l : List Nd) (ks : List Int) : ∀ j, cnt l ks j ≤ j
  | 0 => Nat.le_refl _
  | j + 1 => by
    have := cnt_self l ks j
    simp only [cnt]
    split <;> omega
set_option maxRecDepth 100000 in
set_option maxHeartbeats 4000000 in
theorem ctors_any (W : World) (M : Nat) (v : Value) (l : List Nd) (n : Nat) (hN : Nodes W M v l) (hM : M ≤ W.heap.size) (hn : n < l.length) (hin : ∀ k ∈ (kidN l n 3).kids, ins l k = true) :
    Calls Tryz.prog 114 #[.agg #[v], .int .i64 (n : Int)] W fun e w' => e = .returned (.int .i64 (cnt l (kidN l n 3).kids (kidN l n 3).kids.length)) ∧ Below W.heap.size W w' := by
  obtain ⟨W1, hW1⟩ : ∃ W1, W.alloc (.cells #[v] 24) = W1 := ⟨_, rfl⟩
  have hz1 : W1.heap.size = W.heap.size + 1 := by rw [← hW1]; simp
  have hB1 : Below W.heap.size W W1 := by rw [← hW1]; exact (Below.refl _ W).alloc (Nat.le_refl _) _
  have HC := hide (kid_any W1 M v l n 3 (hN.keep hB1 hM) (by omega) hn (by decide))
  obtain ⟨x, hx⟩ : ∃ x, kidN l n 3 = x := ⟨_, rfl⟩
  have hlk : x.kids.length ≤ 17592186044416 := by
    rw [← hx]
    simp only [kidN]
    split
    · split
      · rename_i h2
        exact (hN.2.1 _ (ins_iff.1 h2).2).2
      · exact Nat.zero_le _
    · exact Nat.zero_le _
  rw [hx] at HC hin ⊢
  have HIN := hide hin
  have HN := hide hN
  have hl1 := hN.1
  obtain ⟨bb, o, vc, _, _, rfl, hvc, _, hbb, _⟩ := hN.at hn
  have HW1 := hide hW1
  rw [← hW1] at HC
  clear hN hx hW1 hin
  obtain ⟨kd, tx, nm, ks, at'⟩ := x
  simp only at hlk HIN ⊢
  go_enter Tryz.func114, Tryz.ntmps114
  go_wp2_with (go_at_call 111; refine (unhide HC).mono ?_; rw [unhide HW1]; rintro e w2 ⟨a2, c2, he, h1, h2, hK, hB2⟩; simp only [ndV] at he h1 hK; subst he; have hz2 := hB2.size)
  have HL : Hid (∀ w, Below (w2.heap.size + 1) (w2.alloc (.cells #[.int .i64 kd, .string tx, .int .i64 nm, .slice a2 ks.length c2, .int .i64 at'] 41)) w → _) := fun w hw => list_at (v := .slice (some ⟨bb, o, none⟩) l.length vc) (by rw [unhide HW1]; exact hB2.mono (by omega)) hw
  have HKK : Hid (∀ w, Below W.heap.size W w → KidsAt w M a2 ks) := fun w hw => by
    rcases hK with h | ⟨kb, ko, ha, hb, hc⟩
    · exact .inl h
    · refine .inr ⟨kb, ko, ha, hb, fun j hj => ?_⟩
      have h3 := hc j hj
      rw [hB1.cell (p := ⟨kb, ko + j, none⟩) (show kb < W.heap.size by omega)] at h3
      rw [hw.cell (p := ⟨kb, ko + j, none⟩) (show kb < W.heap.size by omega)]
      exact h3
  obtain ⟨nk, hnk⟩ : ∃ nk, ks.length = nk := ⟨_, rfl⟩
  have HNK := hide hnk
  obtain ⟨W3, hW3⟩ : ∃ W3, w2.alloc (.cells #[.int .i64 kd, .string tx, .int .i64 nm, .slice a2 ks.length c2, .int .i64 at'] 41) = W3 := ⟨_, rfl⟩
  rw [hW3] at HL ⊢
  rw [hnk] at hlk h1 HL ⊢
  clear hK hW3 hnk hB2
  go_loopw [6, 7] (fun t6 t7 wr => ∃ j : Nat, j ≤ nk ∧ t7 = .int .i64 (j : Int) ∧ t6 = .int .i64 (cnt l ks j : Int) ∧ Below (w2.heap.size + 1) W3 wr) (fun _ t7 _ => nk - (intOf t7).toNat)
  case atStart => exact ⟨0, Nat.zero_le _, rfl, rfl, Below.refl _ _⟩
  case round =>
    obtain ⟨j, hjl, rfl, rfl, hBr⟩ := hrel
    obtain ⟨r1, r2, r3, r4, r5⟩ := unhide HL wr hBr
    obtain ⟨y0, y1, y2, y3, y4⟩ := rcells5 r4
    have hKr := unhide HKK wr r1
    clear r4
    by_cases hlt : j < nk
    case neg =>
      have hlt2 : ¬ (j : Int) < nk := by omega
      obtain rfl : j = nk := by omega
      go_wp2
      go_ret
      exact ⟨by rw [unhide HNK]; rfl, r1⟩
    have hlt2 : (j : Int) < nk := by omega
    have hj0 : (0 : Int) ≤ (j : Int) := by omega
    rcases hKr with h | ⟨kb, ko, hka, hkb, hkc0⟩
    · rw [h] at HNK; simp [Hid] at HNK; omega
    rw [hka] at y3
    have dk := hkc0 j (by rw [unhide HNK]; exact hlt)
    have hkbw : kb < wr.heap.size := by have := r1.size; omega
    obtain ⟨k, hk⟩ : ∃ k, ks.getD j 0 = k := ⟨_, rfl⟩
    have hik : ins l k = true := unhide HIN k (by
      have h3 := unhide HNK
      rw [← hk, List.getD_eq_getElem?_getD, List.getElem?_eq_getElem (by omega)]
      exact List.getElem_mem _)
    rw [hk] at dk
    have hq := ins_iff'.1 hik
    obtain ⟨m, hm⟩ : ∃ m : Nat, k = (m : Int) := ⟨k.toNat, by omega⟩
    subst hm
    have hml : m < l.length := by omega
    obtain ⟨b3, o3, cap3, qa, qc, hv, _, _, hb3, e0, _⟩ := ((unhide HN).keep r1 hM).at hml
    obtain ⟨rfl, rfl, rfl⟩ : bb = b3 ∧ o = o3 ∧ vc = cap3 := by injection hv with h1 _ h3; injection h1 with h1; injection h1 with h4 h5; exact ⟨h4, h5, h3⟩
    have hml' : (m : Int) < l.length := by omega
    have hm0 : (0 : Int) ≤ (m : Int) := by omega
    have hcb : cnt l ks j ≤ j := cnt_self l ks j
    have HS : Hid (cnt l ks (j + 1) = cnt l ks j + (if (nd l m).kind == 46 then 1 else 0)) := by
      show cnt l ks j + (if (nd l (ks.getD j 0).toNat).kind == 46 then 1 else 0) = _
      rw [hk, Int.toNat_natCast]
    obtain ⟨c, hc⟩ : ∃ c, cnt l ks j = c := ⟨_, rfl⟩
    rw [hc] at HS hcb ⊢
    have hbw3 : bb < wr.heap.size := by have := r1.size; omega
    have HQ : Hid (∀ w, Below wr.heap.size wr w → w.cell? ⟨W.heap.size, 0, none⟩ = some (.slice (some ⟨bb, o, none⟩) l.length vc) ∧ w.cell? ⟨w2.heap.size, 3, none⟩ = some (.slice (some ⟨kb, ko, none⟩) nk c2) ∧ w.cell? ⟨kb, ko + j, none⟩ = some (.int .i64 (m : Int)) ∧ w.cell? ⟨bb, o + m * 5, none⟩ = some (.int .i64 (nd l m).kind)) := fun w hw =>
      ⟨(hw.cell (p := ⟨W.heap.size, 0, none⟩) r3).trans r2, (hw.cell (p := ⟨w2.heap.size, 3, none⟩) r5).trans y3, (hw.cell (p := ⟨kb, ko + j, none⟩) hkbw).trans dk, (hw.cell (p := ⟨bb, o + m * 5, none⟩) hbw3).trans e0⟩
    have HBR := hide hBr
    have hz : w2.heap.size + 1 ≤ wr.heap.size := r5
    clear hkc0 hk hik hq hv hka y0 y1 y2 y4 hc
    cases h46 : ((nd l m).kind == 46) with
    | true =>
      rw [h46] at HS
      go_wp2
      refine region_C (C := fun w' => Below wr.heap.size wr w') (by kernel_rfl) (by kernel_rfl) (Below.refl _ _).drew ?_
      repeat (first
        | go_big_quiet_skip
        | (go_big_quiet_want
           go_big_quiet_op
           first
             | go_big_quiet_on
             | (apply Exists.intro
                refine ⟨fun w hw => ?_, ?_⟩
                first
                  | rfl
                  | (obtain ⟨f1, f2, f3, f4⟩ := unhide HQ w hw
                     go_simp
                     first | done | rfl | exact ⟨rfl, rfl⟩)
                go_big_quiet_on)))
      refine wpQuiet_nil ?_
      intro w5 hw5
      have HB5 : Hid (Below (w2.heap.size + 1) W3 w5) := hBr.trans (hw5.mono hz)
      go_wp2
      refine ⟨⟨j + 1, by omega, by go_num, by rw [unhide HS]; go_num, unhide HB5⟩, by simp [intOf]; omega⟩
    | false =>
      rw [h46] at HS
      go_wp2
      refine region_C (C := fun w' => Below wr.heap.size wr w') (by kernel_rfl) (by kernel_rfl) (Below.refl _ _).drew ?_
      repeat (first
        | go_big_quiet_skip
        | (go_big_quiet_want
           go_big_quiet_op
           first
             | go_big_quiet_on
             | (apply Exists.intro
                refine ⟨fun w hw => ?_, ?_⟩
                first
                  | rfl
                  | (obtain ⟨f1, f2, f3, f4⟩ := unhide HQ w hw
                     go_simp
                     first | done | rfl | exact ⟨rfl, rfl⟩)
                go_big_quiet_on)))
      refine wpQuiet_nil ?_
      intro w5 hw5
      have HB5 : Hid (Below (w2.heap.size + 1) W3 w5) := hBr.trans (hw5.mono hz)
      go_wp2
      refine ⟨⟨j + 1, by omega, by go_num, by rw [unhide HS]; rfl, unhide HB5⟩, by simp [intOf]; omega⟩
end Go.Proofs.YtnnpkomedpjlcaaGreatDoor

/- The reference's kids of functions and classes. -/
namespace Go.Proofs.YtnnpkomedpjlcaaGreatDoor
set_option linter.unusedSimpArgs false
set_option linter.unusedVariables false
open Go.RowKit

theorem list_ins {l : List Nd} {n i : Nat} {w : Int} (h : listR l n i w = true) : ∀ k ∈ (kidN l n i).kids, ins l k = true := by
  simp only [listR, listX, Bool.and_eq_true] at h
  intro k hk
  obtain ⟨j, hj, rfl⟩ := List.getElem_of_mem hk
  have := listU_iff.1 h.2 j hj
  rw [Bool.and_eq_true, List.getD_eq_getElem?_getD, List.getElem?_eq_getElem hj] at this
  exact this.1
set_option maxRecDepth 100000 in
set_option maxHeartbeats 2000000 in
theorem arm_41 (W : World) (M : Nat) (v : Value) (l : List Nd) (n : Nat) (hN : Nodes W M v l) (hM : M ≤ W.heap.size) (hn : n < l.length) (hk : (nd l n).kind = 41) :
    Calls Tryz.prog 79 #[.agg #[v], .int .i64 (n : Int)] W fun e w' => e = .returned (.bool (kidR 41 l n)) ∧ Below W.heap.size W w' := by
  have HNN := hide hN
  obtain ⟨bb, o, cap, ka, kc, W1, W2, rfl, hW1, hW2, hc1, hc2, hl1, hkl, HKA, hkc, hkm, ⟨c0, d0, d1, d2, d3, d4, s1, s2⟩, HCL, HREF, HB0⟩ := arm_start W M v l n hN hM hn
  obtain ⟨z0, z1, z2, z3, z4, z5⟩ := unhide HCL W2 (unhide HB0)
  have HZ0 := hide z0
  rw [hk] at hW2 d0 z2 HCL
  have hlt : (n : Int) < l.length := by omega
  have hn0 : (0 : Int) ≤ (n : Int) := by omega
  obtain ⟨nk, hnk⟩ : ∃ nk, (nd l n).kids.length = nk := ⟨_, rfl⟩
  have HNK := hide hnk
  rw [hnk] at hW2 d3 z3 HCL hkl hkc
  clear hN hk hnk z0
  have hBB := unhide HB0
  have HC1 : Hid (Calls Tryz.prog 113 #[.agg #[.slice (some ⟨bb, o, none⟩) l.length cap], .int .i64 (n : Int)] W2 fun e w' => e = .returned (.bool (funcR l n)) ∧ Below W2.heap.size W2 w') := (function_any W2 M _ l n ((unhide HNN).keep (unhide HZ0) hM) (Nat.le_trans hM (unhide HZ0).size) hn).mono fun e w' h => ⟨h.1, h.2⟩
  cases h1 : funcR l n with
  | true =>
    have H1 := hide h1
    rw [h1] at HC1
    clear h1
    have HF : Hid (kidR 41 l n = true) := unhide H1
    go_enter Tryz.func79, Tryz.ntmps79
    go_wp2_with (first | (go_at_call 113; refine (unhide HC1).mono ?_; rintro e w3 ⟨rfl, hB3⟩; obtain ⟨y00, y01, y02, y03, y04, y05⟩ := unhide HCL w3 hB3))
    go_ret
    exact ⟨ret_b (unhide HF).symm, (unhide HCL w3 hB3).1⟩
  | false =>
    have H1 := hide h1
    rw [h1] at HC1
    clear h1
    have HF : Hid (kidR 41 l n = false) := unhide H1
    go_enter Tryz.func79, Tryz.ntmps79
    go_wp2_with (first | (go_at_call 113; refine (unhide HC1).mono ?_; rintro e w3 ⟨rfl, hB3⟩; obtain ⟨y00, y01, y02, y03, y04, y05⟩ := unhide HCL w3 hB3))
    go_ret
    exact ⟨ret_b (unhide HF).symm, (unhide HCL w3 hB3).1⟩
set_option maxRecDepth 100000 in
set_option maxHeartbeats 2000000 in
theorem arm_45 (W : World) (M : Nat) (v : Value) (l : List Nd) (n : Nat) (hN : Nodes W M v l) (hM : M ≤ W.heap.size) (hn : n < l.length) (hk : (nd l n).kind = 45) :
    Calls Tryz.prog 79 #[.agg #[v], .int .i64 (n : Int)] W fun e w' => e = .returned (.bool (kidR 45 l n)) ∧ Below W.heap.size W w' := by
  have HNN := hide hN
  obtain ⟨bb, o, cap, ka, kc, W1, W2, rfl, hW1, hW2, hc1, hc2, hl1, hkl, HKA, hkc, hkm, ⟨c0, d0, d1, d2, d3, d4, s1, s2⟩, HCL, HREF, HB0⟩ := arm_start W M v l n hN hM hn
  obtain ⟨z0, z1, z2, z3, z4, z5⟩ := unhide HCL W2 (unhide HB0)
  have HZ0 := hide z0
  rw [hk] at hW2 d0 z2 HCL
  have hlt : (n : Int) < l.length := by omega
  have hn0 : (0 : Int) ≤ (n : Int) := by omega
  obtain ⟨nk, hnk⟩ : ∃ nk, (nd l n).kids.length = nk := ⟨_, rfl⟩
  have HNK := hide hnk
  rw [hnk] at hW2 d3 z3 HCL hkl hkc
  clear hN hk hnk z0
  have hBB := unhide HB0
  have HC1 : Hid (Calls Tryz.prog 113 #[.agg #[.slice (some ⟨bb, o, none⟩) l.length cap], .int .i64 (n : Int)] W2 fun e w' => e = .returned (.bool (funcR l n)) ∧ Below W2.heap.size W2 w') := (function_any W2 M _ l n ((unhide HNN).keep (unhide HZ0) hM) (Nat.le_trans hM (unhide HZ0).size) hn).mono fun e w' h => ⟨h.1, h.2⟩
  cases h1 : funcR l n with
  | true =>
    have H1 := hide h1
    rw [h1] at HC1
    clear h1
    have HF : Hid (kidR 45 l n = true) := unhide H1
    go_enter Tryz.func79, Tryz.ntmps79
    go_wp2_with (first | (go_at_call 113; refine (unhide HC1).mono ?_; rintro e w3 ⟨rfl, hB3⟩; obtain ⟨y00, y01, y02, y03, y04, y05⟩ := unhide HCL w3 hB3))
    go_ret
    exact ⟨ret_b (unhide HF).symm, (unhide HCL w3 hB3).1⟩
  | false =>
    have H1 := hide h1
    rw [h1] at HC1
    clear h1
    have HF : Hid (kidR 45 l n = false) := unhide H1
    go_enter Tryz.func79, Tryz.ntmps79
    go_wp2_with (first | (go_at_call 113; refine (unhide HC1).mono ?_; rintro e w3 ⟨rfl, hB3⟩; obtain ⟨y00, y01, y02, y03, y04, y05⟩ := unhide HCL w3 hB3))
    go_ret
    exact ⟨ret_b (unhide HF).symm, (unhide HCL w3 hB3).1⟩
set_option maxRecDepth 100000 in
set_option maxHeartbeats 2000000 in
theorem arm_42 (W : World) (M : Nat) (v : Value) (l : List Nd) (n : Nat) (hN : Nodes W M v l) (hM : M ≤ W.heap.size) (hn : n < l.length) (hk : (nd l n).kind = 42) :
    Calls Tryz.prog 79 #[.agg #[v], .int .i64 (n : Int)] W fun e w' => e = .returned (.bool (kidR 42 l n)) ∧ Below W.heap.size W w' := by
  have HNN := hide hN
  obtain ⟨bb, o, cap, ka, kc, W1, W2, rfl, hW1, hW2, hc1, hc2, hl1, hkl, HKA, hkc, hkm, ⟨c0, d0, d1, d2, d3, d4, s1, s2⟩, HCL, HREF, HB0⟩ := arm_start W M v l n hN hM hn
  obtain ⟨z0, z1, z2, z3, z4, z5⟩ := unhide HCL W2 (unhide HB0)
  have HZ0 := hide z0
  rw [hk] at hW2 d0 z2 HCL
  have hlt : (n : Int) < l.length := by omega
  have hn0 : (0 : Int) ≤ (n : Int) := by omega
  obtain ⟨nk, hnk⟩ : ∃ nk, (nd l n).kids.length = nk := ⟨_, rfl⟩
  have HNK := hide hnk
  obtain ⟨x3, hx3⟩ : ∃ x, kidN l n 3 = x := ⟨_, rfl⟩
  have HKD3 : Hid (∀ w, Below W2.heap.size W2 w → Calls Tryz.prog 111 #[.agg #[.slice (some ⟨bb, o, none⟩) l.length cap], .int .i64 (n : Int), .int .i64 3] w fun e w' => ∃ a c, e = .returned (ndV x3 a c) ∧ KidsAt w' M a x3.kids ∧ x3.kids.length ≤ c ∧ c ≤ maxLen ∧ Below W2.heap.size W2 w') := fun w hw => by rw [← hx3]; exact (unhide HREF).kid w hw 3 (by decide)
  have HX3 := hide hx3
  clear hx3
  rw [hnk] at hW2 d3 z3 HCL hkl hkc
  clear hN hk hnk z0
  have hBB := unhide HB0
  have HC1 : Hid (Calls Tryz.prog 109 #[.agg #[.slice (some ⟨bb, o, none⟩) l.length cap], .int .i64 (n : Int), .slice (some ⟨W2.heap.size, 0, none⟩) 4 4] (W2.alloc (.cells #[.int .i64 2, .int .i64 (-43), .int .i64 2, .int .i64 2] 3)) fun e w' => e = .returned (.bool (rowR l n [2, -43, 2, 2])) ∧ Below W2.heap.size W2 w') := (unhide HREF).row W2 (unhide HB0) [2, -43, 2, 2] (by decide) (by decide)
  cases h1 : rowR l n [2, -43, 2, 2] with
  | true =>
    have H1 := hide h1
    rw [h1] at HC1
    clear h1
    have HC2 : Hid (∀ w, Below W2.heap.size W2 w → Calls Tryz.prog 108 #[.agg #[.slice (some ⟨bb, o, none⟩) l.length cap], .int .i64 (n : Int), .int .i64 0, .int .i64 67] w fun e w' => e = .returned (.bool (listR l n 0 67)) ∧ Below W2.heap.size W2 w') := fun w hw => (unhide HREF).list w hw 0 67 (by decide)
    cases h2 : listR l n 0 67 with
    | true =>
      have H2 := hide h2
      rw [h2] at HC2
      clear h2
      have HC3 : Hid (∀ w, Below W2.heap.size W2 w → Calls Tryz.prog 108 #[.agg #[.slice (some ⟨bb, o, none⟩) l.length cap], .int .i64 (n : Int), .int .i64 2, .int .i64 80] w fun e w' => e = .returned (.bool (listR l n 2 80)) ∧ Below W2.heap.size W2 w') := fun w hw => (unhide HREF).list w hw 2 80 (by decide)
      cases h3 : listR l n 2 80 with
      | true =>
        have H3 := hide h3
        rw [h3] at HC3
        clear h3
        have HC4 : Hid (∀ w, Below W2.heap.size W2 w → Calls Tryz.prog 108 #[.agg #[.slice (some ⟨bb, o, none⟩) l.length cap], .int .i64 (n : Int), .int .i64 3, .int .i64 1005] w fun e w' => e = .returned (.bool (listR l n 3 1005)) ∧ Below W2.heap.size W2 w') := fun w hw => (unhide HREF).list w hw 3 1005 (by decide)
        cases h4 : listR l n 3 1005 with
        | true =>
          have H4 := hide h4
          rw [h4] at HC4
          clear h4
          have HCT : Hid (∀ w, Below W2.heap.size W2 w → Calls Tryz.prog 114 #[.agg #[.slice (some ⟨bb, o, none⟩) l.length cap], .int .i64 (n : Int)] w fun e w' => e = .returned (.int .i64 (cnt l x3.kids x3.kids.length)) ∧ Below W2.heap.size W2 w') := fun w hw => by
            have := ctors_any w M _ l n ((unhide HNN).keep (unhide HCL w hw).1 hM) (Nat.le_trans hM (unhide HCL w hw).1.size) hn (list_ins (unhide H4))
            rw [unhide HX3] at this
            exact this.mono fun e w' h => ⟨h.1, hw.trans (h.2.mono hw.size)⟩
          cases h5 : decide (cnt l x3.kids x3.kids.length ≤ 1) with
          | true =>
            have H5 := hide h5
            have hcn : decide ((cnt l x3.kids x3.kids.length : Int) ≤ 1) = true := by simp at h5 ⊢; omega
            clear h5
            have HF : Hid (kidR 42 l n = true) := by show kidR 42 l n = _; simp [kidR, funcR, unhide HNK, unhide HX3, unhide H1, unhide H2, unhide H3, unhide H4, unhide H5]
            go_enter Tryz.func79, Tryz.ntmps79
            go_wp2_with (first | (go_at_call 109; refine (unhide HC1).mono ?_; rintro e w3 ⟨rfl, hB3⟩; obtain ⟨y00, y01, y02, y03, y04, y05⟩ := unhide HCL w3 hB3) | (go_at_call_of 108 (67 : Int); refine (unhide HC2 _ (by assumption)).mono ?_; rintro e w4 ⟨rfl, hB4⟩; obtain ⟨y10, y11, y12, y13, y14, y15⟩ := unhide HCL w4 hB4) | (go_at_call_of 108 (80 : Int); refine (unhide HC3 _ (by assumption)).mono ?_; rintro e w5 ⟨rfl, hB5⟩; obtain ⟨y20, y21, y22, y23, y24, y25⟩ := unhide HCL w5 hB5) | (go_at_call_of 108 (1005 : Int); refine (unhide HC4 _ (by assumption)).mono ?_; rintro e w6 ⟨rfl, hB6⟩; obtain ⟨y30, y31, y32, y33, y34, y35⟩ := unhide HCL w6 hB6) | (go_at_call 114; refine (unhide HCT _ (by assumption)).mono ?_; rintro e w7 ⟨rfl, hB7⟩; obtain ⟨y40, y41, y42, y43, y44, y45⟩ := unhide HCL w7 hB7))
            go_ret
            exact ⟨ret_b (unhide HF).symm, (unhide HCL w7 hB7).1⟩
          | false =>
            have H5 := hide h5
            have hcn : decide ((cnt l x3.kids x3.kids.length : Int) ≤ 1) = false := by simp at h5 ⊢; omega
            clear h5
            have HF : Hid (kidR 42 l n = false) := by show kidR 42 l n = _; simp [kidR, funcR, unhide HNK, unhide HX3, unhide H1, unhide H2, unhide H3, unhide H4, unhide H5]
            go_enter Tryz.func79, Tryz.ntmps79
            go_wp2_with (first | (go_at_call 109; refine (unhide HC1).mono ?_; rintro e w3 ⟨rfl, hB3⟩; obtain ⟨y00, y01, y02, y03, y04, y05⟩ := unhide HCL w3 hB3) | (go_at_call_of 108 (67 : Int); refine (unhide HC2 _ (by assumption)).mono ?_; rintro e w4 ⟨rfl, hB4⟩; obtain ⟨y10, y11, y12, y13, y14, y15⟩ := unhide HCL w4 hB4) | (go_at_call_of 108 (80 : Int); refine (unhide HC3 _ (by assumption)).mono ?_; rintro e w5 ⟨rfl, hB5⟩; obtain ⟨y20, y21, y22, y23, y24, y25⟩ := unhide HCL w5 hB5) | (go_at_call_of 108 (1005 : Int); refine (unhide HC4 _ (by assumption)).mono ?_; rintro e w6 ⟨rfl, hB6⟩; obtain ⟨y30, y31, y32, y33, y34, y35⟩ := unhide HCL w6 hB6) | (go_at_call 114; refine (unhide HCT _ (by assumption)).mono ?_; rintro e w7 ⟨rfl, hB7⟩; obtain ⟨y40, y41, y42, y43, y44, y45⟩ := unhide HCL w7 hB7))
            go_ret
            exact ⟨ret_b (unhide HF).symm, (unhide HCL w7 hB7).1⟩
        | false =>
          have H4 := hide h4
          rw [h4] at HC4
          clear h4
          have HF : Hid (kidR 42 l n = false) := by show kidR 42 l n = _; simp [kidR, funcR, unhide HNK, unhide HX3, unhide H1, unhide H2, unhide H3, unhide H4]
          go_enter Tryz.func79, Tryz.ntmps79
          go_wp2_with (first | (go_at_call 109; refine (unhide HC1).mono ?_; rintro e w3 ⟨rfl, hB3⟩; obtain ⟨y00, y01, y02, y03, y04, y05⟩ := unhide HCL w3 hB3) | (go_at_call_of 108 (67 : Int); refine (unhide HC2 _ (by assumption)).mono ?_; rintro e w4 ⟨rfl, hB4⟩; obtain ⟨y10, y11, y12, y13, y14, y15⟩ := unhide HCL w4 hB4) | (go_at_call_of 108 (80 : Int); refine (unhide HC3 _ (by assumption)).mono ?_; rintro e w5 ⟨rfl, hB5⟩; obtain ⟨y20, y21, y22, y23, y24, y25⟩ := unhide HCL w5 hB5) | (go_at_call_of 108 (1005 : Int); refine (unhide HC4 _ (by assumption)).mono ?_; rintro e w6 ⟨rfl, hB6⟩; obtain ⟨y30, y31, y32, y33, y34, y35⟩ := unhide HCL w6 hB6))
          go_ret
          exact ⟨ret_b (unhide HF).symm, (unhide HCL w6 hB6).1⟩
      | false =>
        have H3 := hide h3
        rw [h3] at HC3
        clear h3
        have HF : Hid (kidR 42 l n = false) := by show kidR 42 l n = _; simp [kidR, funcR, unhide HNK, unhide HX3, unhide H1, unhide H2, unhide H3]
        go_enter Tryz.func79, Tryz.ntmps79
        go_wp2_with (first | (go_at_call 109; refine (unhide HC1).mono ?_; rintro e w3 ⟨rfl, hB3⟩; obtain ⟨y00, y01, y02, y03, y04, y05⟩ := unhide HCL w3 hB3) | (go_at_call_of 108 (67 : Int); refine (unhide HC2 _ (by assumption)).mono ?_; rintro e w4 ⟨rfl, hB4⟩; obtain ⟨y10, y11, y12, y13, y14, y15⟩ := unhide HCL w4 hB4) | (go_at_call_of 108 (80 : Int); refine (unhide HC3 _ (by assumption)).mono ?_; rintro e w5 ⟨rfl, hB5⟩; obtain ⟨y20, y21, y22, y23, y24, y25⟩ := unhide HCL w5 hB5))
        go_ret
        exact ⟨ret_b (unhide HF).symm, (unhide HCL w5 hB5).1⟩
    | false =>
      have H2 := hide h2
      rw [h2] at HC2
      clear h2
      have HF : Hid (kidR 42 l n = false) := by show kidR 42 l n = _; simp [kidR, funcR, unhide HNK, unhide HX3, unhide H1, unhide H2]
      go_enter Tryz.func79, Tryz.ntmps79
      go_wp2_with (first | (go_at_call 109; refine (unhide HC1).mono ?_; rintro e w3 ⟨rfl, hB3⟩; obtain ⟨y00, y01, y02, y03, y04, y05⟩ := unhide HCL w3 hB3) | (go_at_call_of 108 (67 : Int); refine (unhide HC2 _ (by assumption)).mono ?_; rintro e w4 ⟨rfl, hB4⟩; obtain ⟨y10, y11, y12, y13, y14, y15⟩ := unhide HCL w4 hB4))
      go_ret
      exact ⟨ret_b (unhide HF).symm, (unhide HCL w4 hB4).1⟩
  | false =>
    have H1 := hide h1
    rw [h1] at HC1
    clear h1
    have HF : Hid (kidR 42 l n = false) := by show kidR 42 l n = _; simp [kidR, funcR, unhide HNK, unhide HX3, unhide H1]
    go_enter Tryz.func79, Tryz.ntmps79
    go_wp2_with (first | (go_at_call 109; refine (unhide HC1).mono ?_; rintro e w3 ⟨rfl, hB3⟩; obtain ⟨y00, y01, y02, y03, y04, y05⟩ := unhide HCL w3 hB3))
    go_ret
    exact ⟨ret_b (unhide HF).symm, (unhide HCL w3 hB3).1⟩
end Go.Proofs.YtnnpkomedpjlcaaGreatDoor

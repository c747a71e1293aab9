/- The reference's kids of expressions. -/
import Derived.Deep.RegionHeld3
import Derived.Deep.RegionWith
import Derived.LoopN
import Derived.Test.YtnnpkomedpjlcaaGreatDoorG1
import Derived.Test.YtnnpkomedpjlcaaGreatDoorTH
/- The reference's kids of expressions. -/
namespace Go.Proofs.YtnnpkomedpjlcaaGreatDoor
set_option linter.unusedSimpArgs false
set_option linter.unusedVariables false
open Go.RowKit

set_option maxRecDepth 100000 in
set_option maxHeartbeats 2000000 in
theorem arm_19 (W : World) (M : Nat) (v : Value) (l : List Nd) (n : Nat) (hN : Nodes W M v l) (hM : M ≤ W.heap.size) (hn : n < l.length) (hk : (nd l n).kind = 19) :
    Calls Tryz.prog 78 #[.agg #[v], .int .i64 (n : Int)] W fun e w' => e = .returned (.bool (kidR 19 l n)) ∧ Below W.heap.size W w' := by
  obtain ⟨bb, o, cap, ka, kc, W1, W2, rfl, hW1, hW2, hc1, hc2, hl1, hkl, HKA, hkc, hkm, ⟨c0, d0, d1, d2, d3, d4, s1, s2⟩, HCL, HREF, HB0⟩ := arm_start W M v l n hN hM hn
  obtain ⟨z0, z1, z2, z3, z4, z5⟩ := unhide HCL W2 (unhide HB0)
  have HZ0 := hide z0
  rw [hk] at hW2 d0 z2 HCL
  have hlt : (n : Int) < l.length := by omega
  have hn0 : (0 : Int) ≤ (n : Int) := by omega
  obtain ⟨nk, hnk⟩ : ∃ nk, (nd l n).kids.length = nk := ⟨_, rfl⟩
  have HNK := hide hnk
  rw [hnk] at hW2 d3 z3 HCL hkl hkc
  clear hN hk hnk z0
  have hBB := unhide HB0
  have HC1 : Hid (∀ w, Below W2.heap.size W2 w → Calls Tryz.prog 110 #[.agg #[.slice (some ⟨bb, o, none⟩) l.length cap], .int .i64 (n : Int), .int .i64 1000, .int .i64 1000] w fun e w' => e = .returned (.bool (eachU l n 1000 1000 nk)) ∧ Below W2.heap.size W2 w') := fun w hw => by rw [← unhide HNK]; exact (unhide HREF).each w hw 1000 1000
  cases h1 : eachU l n 1000 1000 nk with
  | true =>
    have H1 := hide h1
    rw [h1] at HC1
    clear h1
    have HF : Hid (kidR 19 l n = true) := by show kidR 19 l n = _; simp [kidR, funcR, unhide HNK, unhide H1]
    go_enter Tryz.func78, Tryz.ntmps78
    go_wp2_with (first | (go_at_call 110; refine (unhide HC1 _ (by assumption)).mono ?_; rintro e w3 ⟨rfl, hB3⟩; obtain ⟨y00, y01, y02, y03, y04, y05⟩ := unhide HCL w3 hB3))
    go_ret
    exact ⟨ret_b (unhide HF).symm, (unhide HCL w3 hB3).1⟩
  | false =>
    have H1 := hide h1
    rw [h1] at HC1
    clear h1
    have HF : Hid (kidR 19 l n = false) := by show kidR 19 l n = _; simp [kidR, funcR, unhide HNK, unhide H1]
    go_enter Tryz.func78, Tryz.ntmps78
    go_wp2_with (first | (go_at_call 110; refine (unhide HC1 _ (by assumption)).mono ?_; rintro e w3 ⟨rfl, hB3⟩; obtain ⟨y00, y01, y02, y03, y04, y05⟩ := unhide HCL w3 hB3))
    go_ret
    exact ⟨ret_b (unhide HF).symm, (unhide HCL w3 hB3).1⟩
set_option maxRecDepth 100000 in
set_option maxHeartbeats 2000000 in
theorem arm_20 (W : World) (M : Nat) (v : Value) (l : List Nd) (n : Nat) (hN : Nodes W M v l) (hM : M ≤ W.heap.size) (hn : n < l.length) (hk : (nd l n).kind = 20) :
    Calls Tryz.prog 78 #[.agg #[v], .int .i64 (n : Int)] W fun e w' => e = .returned (.bool (kidR 20 l n)) ∧ Below W.heap.size W w' := by
  obtain ⟨bb, o, cap, ka, kc, W1, W2, rfl, hW1, hW2, hc1, hc2, hl1, hkl, HKA, hkc, hkm, ⟨c0, d0, d1, d2, d3, d4, s1, s2⟩, HCL, HREF, HB0⟩ := arm_start W M v l n hN hM hn
  obtain ⟨z0, z1, z2, z3, z4, z5⟩ := unhide HCL W2 (unhide HB0)
  have HZ0 := hide z0
  rw [hk] at hW2 d0 z2 HCL
  have hlt : (n : Int) < l.length := by omega
  have hn0 : (0 : Int) ≤ (n : Int) := by omega
  obtain ⟨nk, hnk⟩ : ∃ nk, (nd l n).kids.length = nk := ⟨_, rfl⟩
  have HNK := hide hnk
  rw [hnk] at hW2 d3 z3 HCL hkl hkc
  clear hN hk hnk z0
  have hBB := unhide HB0
  have HC1 : Hid (∀ w, Below W2.heap.size W2 w → Calls Tryz.prog 110 #[.agg #[.slice (some ⟨bb, o, none⟩) l.length cap], .int .i64 (n : Int), .int .i64 21, .int .i64 21] w fun e w' => e = .returned (.bool (eachU l n 21 21 nk)) ∧ Below W2.heap.size W2 w') := fun w hw => by rw [← unhide HNK]; exact (unhide HREF).each w hw 21 21
  cases h1 : eachU l n 21 21 nk with
  | true =>
    have H1 := hide h1
    rw [h1] at HC1
    clear h1
    have HF : Hid (kidR 20 l n = true) := by show kidR 20 l n = _; simp [kidR, funcR, unhide HNK, unhide H1]
    go_enter Tryz.func78, Tryz.ntmps78
    go_wp2_with (first | (go_at_call 110; refine (unhide HC1 _ (by assumption)).mono ?_; rintro e w3 ⟨rfl, hB3⟩; obtain ⟨y00, y01, y02, y03, y04, y05⟩ := unhide HCL w3 hB3))
    go_ret
    exact ⟨ret_b (unhide HF).symm, (unhide HCL w3 hB3).1⟩
  | false =>
    have H1 := hide h1
    rw [h1] at HC1
    clear h1
    have HF : Hid (kidR 20 l n = false) := by show kidR 20 l n = _; simp [kidR, funcR, unhide HNK, unhide H1]
    go_enter Tryz.func78, Tryz.ntmps78
    go_wp2_with (first | (go_at_call 110; refine (unhide HC1 _ (by assumption)).mono ?_; rintro e w3 ⟨rfl, hB3⟩; obtain ⟨y00, y01, y02, y03, y04, y05⟩ := unhide HCL w3 hB3))
    go_ret
    exact ⟨ret_b (unhide HF).symm, (unhide HCL w3 hB3).1⟩
set_option maxRecDepth 100000 in
set_option maxHeartbeats 2000000 in
theorem arm_21 (W : World) (M : Nat) (v : Value) (l : List Nd) (n : Nat) (hN : Nodes W M v l) (hM : M ≤ W.heap.size) (hn : n < l.length) (hk : (nd l n).kind = 21) :
    Calls Tryz.prog 78 #[.agg #[v], .int .i64 (n : Int)] W fun e w' => e = .returned (.bool (kidR 21 l n)) ∧ Below W.heap.size W w' := by
  obtain ⟨bb, o, cap, ka, kc, W1, W2, rfl, hW1, hW2, hc1, hc2, hl1, hkl, HKA, hkc, hkm, ⟨c0, d0, d1, d2, d3, d4, s1, s2⟩, HCL, HREF, HB0⟩ := arm_start W M v l n hN hM hn
  obtain ⟨z0, z1, z2, z3, z4, z5⟩ := unhide HCL W2 (unhide HB0)
  have HZ0 := hide z0
  rw [hk] at hW2 d0 z2 HCL
  have hlt : (n : Int) < l.length := by omega
  have hn0 : (0 : Int) ≤ (n : Int) := by omega
  obtain ⟨nk, hnk⟩ : ∃ nk, (nd l n).kids.length = nk := ⟨_, rfl⟩
  have HNK := hide hnk
  rw [hnk] at hW2 d3 z3 HCL hkl hkc
  clear hN hk hnk z0
  have hBB := unhide HB0
  have HC1 : Hid (Calls Tryz.prog 109 #[.agg #[.slice (some ⟨bb, o, none⟩) l.length cap], .int .i64 (n : Int), .slice (some ⟨W2.heap.size, 0, none⟩) 1 1] (W2.alloc (.cells #[.int .i64 1000] 3)) fun e w' => e = .returned (.bool (rowR l n [1000])) ∧ Below W2.heap.size W2 w') := (unhide HREF).row W2 (unhide HB0) [1000] (by decide) (by decide)
  cases h1 : rowR l n [1000] with
  | true =>
    have H1 := hide h1
    rw [h1] at HC1
    clear h1
    have HF : Hid (kidR 21 l n = true) := by show kidR 21 l n = _; simp [kidR, funcR, unhide HNK, unhide H1]
    go_enter Tryz.func78, Tryz.ntmps78
    go_wp2_with (first | (go_at_call 109; refine (unhide HC1).mono ?_; rintro e w3 ⟨rfl, hB3⟩; obtain ⟨y00, y01, y02, y03, y04, y05⟩ := unhide HCL w3 hB3))
    go_ret
    exact ⟨ret_b (unhide HF).symm, (unhide HCL w3 hB3).1⟩
  | false =>
    have H1 := hide h1
    rw [h1] at HC1
    clear h1
    have HF : Hid (kidR 21 l n = false) := by show kidR 21 l n = _; simp [kidR, funcR, unhide HNK, unhide H1]
    go_enter Tryz.func78, Tryz.ntmps78
    go_wp2_with (first | (go_at_call 109; refine (unhide HC1).mono ?_; rintro e w3 ⟨rfl, hB3⟩; obtain ⟨y00, y01, y02, y03, y04, y05⟩ := unhide HCL w3 hB3))
    go_ret
    exact ⟨ret_b (unhide HF).symm, (unhide HCL w3 hB3).1⟩
set_option maxRecDepth 100000 in
set_option maxHeartbeats 2000000 in
theorem arm_23 (W : World) (M : Nat) (v : Value) (l : List Nd) (n : Nat) (hN : Nodes W M v l) (hM : M ≤ W.heap.size) (hn : n < l.length) (hk : (nd l n).kind = 23) :
    Calls Tryz.prog 78 #[.agg #[v], .int .i64 (n : Int)] W fun e w' => e = .returned (.bool (kidR 23 l n)) ∧ Below W.heap.size W w' := by
  obtain ⟨bb, o, cap, ka, kc, W1, W2, rfl, hW1, hW2, hc1, hc2, hl1, hkl, HKA, hkc, hkm, ⟨c0, d0, d1, d2, d3, d4, s1, s2⟩, HCL, HREF, HB0⟩ := arm_start W M v l n hN hM hn
  obtain ⟨z0, z1, z2, z3, z4, z5⟩ := unhide HCL W2 (unhide HB0)
  have HZ0 := hide z0
  rw [hk] at hW2 d0 z2 HCL
  have hlt : (n : Int) < l.length := by omega
  have hn0 : (0 : Int) ≤ (n : Int) := by omega
  obtain ⟨nk, hnk⟩ : ∃ nk, (nd l n).kids.length = nk := ⟨_, rfl⟩
  have HNK := hide hnk
  rw [hnk] at hW2 d3 z3 HCL hkl hkc
  clear hN hk hnk z0
  have hBB := unhide HB0
  have HC1 : Hid (Calls Tryz.prog 109 #[.agg #[.slice (some ⟨bb, o, none⟩) l.length cap], .int .i64 (n : Int), .slice (some ⟨W2.heap.size, 0, none⟩) 1 1] (W2.alloc (.cells #[.int .i64 1000] 3)) fun e w' => e = .returned (.bool (rowR l n [1000])) ∧ Below W2.heap.size W2 w') := (unhide HREF).row W2 (unhide HB0) [1000] (by decide) (by decide)
  cases h1 : rowR l n [1000] with
  | true =>
    have H1 := hide h1
    rw [h1] at HC1
    clear h1
    have HF : Hid (kidR 23 l n = true) := by show kidR 23 l n = _; simp [kidR, funcR, unhide HNK, unhide H1]
    go_enter Tryz.func78, Tryz.ntmps78
    go_wp2_with (first | (go_at_call 109; refine (unhide HC1).mono ?_; rintro e w3 ⟨rfl, hB3⟩; obtain ⟨y00, y01, y02, y03, y04, y05⟩ := unhide HCL w3 hB3))
    go_ret
    exact ⟨ret_b (unhide HF).symm, (unhide HCL w3 hB3).1⟩
  | false =>
    have H1 := hide h1
    rw [h1] at HC1
    clear h1
    have HF : Hid (kidR 23 l n = false) := by show kidR 23 l n = _; simp [kidR, funcR, unhide HNK, unhide H1]
    go_enter Tryz.func78, Tryz.ntmps78
    go_wp2_with (first | (go_at_call 109; refine (unhide HC1).mono ?_; rintro e w3 ⟨rfl, hB3⟩; obtain ⟨y00, y01, y02, y03, y04, y05⟩ := unhide HCL w3 hB3))
    go_ret
    exact ⟨ret_b (unhide HF).symm, (unhide HCL w3 hB3).1⟩
set_option maxRecDepth 100000 in
set_option maxHeartbeats 2000000 in
theorem arm_29 (W : World) (M : Nat) (v : Value) (l : List Nd) (n : Nat) (hN : Nodes W M v l) (hM : M ≤ W.heap.size) (hn : n < l.length) (hk : (nd l n).kind = 29) :
    Calls Tryz.prog 78 #[.agg #[v], .int .i64 (n : Int)] W fun e w' => e = .returned (.bool (kidR 29 l n)) ∧ Below W.heap.size W w' := by
  obtain ⟨bb, o, cap, ka, kc, W1, W2, rfl, hW1, hW2, hc1, hc2, hl1, hkl, HKA, hkc, hkm, ⟨c0, d0, d1, d2, d3, d4, s1, s2⟩, HCL, HREF, HB0⟩ := arm_start W M v l n hN hM hn
  obtain ⟨z0, z1, z2, z3, z4, z5⟩ := unhide HCL W2 (unhide HB0)
  have HZ0 := hide z0
  rw [hk] at hW2 d0 z2 HCL
  have hlt : (n : Int) < l.length := by omega
  have hn0 : (0 : Int) ≤ (n : Int) := by omega
  obtain ⟨nk, hnk⟩ : ∃ nk, (nd l n).kids.length = nk := ⟨_, rfl⟩
  have HNK := hide hnk
  rw [hnk] at hW2 d3 z3 HCL hkl hkc
  clear hN hk hnk z0
  have hBB := unhide HB0
  have HC1 : Hid (Calls Tryz.prog 109 #[.agg #[.slice (some ⟨bb, o, none⟩) l.length cap], .int .i64 (n : Int), .slice (some ⟨W2.heap.size, 0, none⟩) 1 1] (W2.alloc (.cells #[.int .i64 1000] 3)) fun e w' => e = .returned (.bool (rowR l n [1000])) ∧ Below W2.heap.size W2 w') := (unhide HREF).row W2 (unhide HB0) [1000] (by decide) (by decide)
  cases h1 : rowR l n [1000] with
  | true =>
    have H1 := hide h1
    rw [h1] at HC1
    clear h1
    have HF : Hid (kidR 29 l n = true) := by show kidR 29 l n = _; simp [kidR, funcR, unhide HNK, unhide H1]
    go_enter Tryz.func78, Tryz.ntmps78
    go_wp2_with (first | (go_at_call 109; refine (unhide HC1).mono ?_; rintro e w3 ⟨rfl, hB3⟩; obtain ⟨y00, y01, y02, y03, y04, y05⟩ := unhide HCL w3 hB3))
    go_ret
    exact ⟨ret_b (unhide HF).symm, (unhide HCL w3 hB3).1⟩
  | false =>
    have H1 := hide h1
    rw [h1] at HC1
    clear h1
    have HF : Hid (kidR 29 l n = false) := by show kidR 29 l n = _; simp [kidR, funcR, unhide HNK, unhide H1]
    go_enter Tryz.func78, Tryz.ntmps78
    go_wp2_with (first | (go_at_call 109; refine (unhide HC1).mono ?_; rintro e w3 ⟨rfl, hB3⟩; obtain ⟨y00, y01, y02, y03, y04, y05⟩ := unhide HCL w3 hB3))
    go_ret
    exact ⟨ret_b (unhide HF).symm, (unhide HCL w3 hB3).1⟩
set_option maxRecDepth 100000 in
set_option maxHeartbeats 2000000 in
theorem arm_34 (W : World) (M : Nat) (v : Value) (l : List Nd) (n : Nat) (hN : Nodes W M v l) (hM : M ≤ W.heap.size) (hn : n < l.length) (hk : (nd l n).kind = 34) :
    Calls Tryz.prog 78 #[.agg #[v], .int .i64 (n : Int)] W fun e w' => e = .returned (.bool (kidR 34 l n)) ∧ Below W.heap.size W w' := by
  obtain ⟨bb, o, cap, ka, kc, W1, W2, rfl, hW1, hW2, hc1, hc2, hl1, hkl, HKA, hkc, hkm, ⟨c0, d0, d1, d2, d3, d4, s1, s2⟩, HCL, HREF, HB0⟩ := arm_start W M v l n hN hM hn
  obtain ⟨z0, z1, z2, z3, z4, z5⟩ := unhide HCL W2 (unhide HB0)
  have HZ0 := hide z0
  rw [hk] at hW2 d0 z2 HCL
  have hlt : (n : Int) < l.length := by omega
  have hn0 : (0 : Int) ≤ (n : Int) := by omega
  obtain ⟨nk, hnk⟩ : ∃ nk, (nd l n).kids.length = nk := ⟨_, rfl⟩
  have HNK := hide hnk
  rw [hnk] at hW2 d3 z3 HCL hkl hkc
  clear hN hk hnk z0
  have hBB := unhide HB0
  have HC1 : Hid (Calls Tryz.prog 109 #[.agg #[.slice (some ⟨bb, o, none⟩) l.length cap], .int .i64 (n : Int), .slice (some ⟨W2.heap.size, 0, none⟩) 1 1] (W2.alloc (.cells #[.int .i64 1000] 3)) fun e w' => e = .returned (.bool (rowR l n [1000])) ∧ Below W2.heap.size W2 w') := (unhide HREF).row W2 (unhide HB0) [1000] (by decide) (by decide)
  cases h1 : rowR l n [1000] with
  | true =>
    have H1 := hide h1
    rw [h1] at HC1
    clear h1
    have HF : Hid (kidR 34 l n = true) := by show kidR 34 l n = _; simp [kidR, funcR, unhide HNK, unhide H1]
    go_enter Tryz.func78, Tryz.ntmps78
    go_wp2_with (first | (go_at_call 109; refine (unhide HC1).mono ?_; rintro e w3 ⟨rfl, hB3⟩; obtain ⟨y00, y01, y02, y03, y04, y05⟩ := unhide HCL w3 hB3))
    go_ret
    exact ⟨ret_b (unhide HF).symm, (unhide HCL w3 hB3).1⟩
  | false =>
    have H1 := hide h1
    rw [h1] at HC1
    clear h1
    have HF : Hid (kidR 34 l n = false) := by show kidR 34 l n = _; simp [kidR, funcR, unhide HNK, unhide H1]
    go_enter Tryz.func78, Tryz.ntmps78
    go_wp2_with (first | (go_at_call 109; refine (unhide HC1).mono ?_; rintro e w3 ⟨rfl, hB3⟩; obtain ⟨y00, y01, y02, y03, y04, y05⟩ := unhide HCL w3 hB3))
    go_ret
    exact ⟨ret_b (unhide HF).symm, (unhide HCL w3 hB3).1⟩
set_option maxRecDepth 100000 in
set_option maxHeartbeats 2000000 in
theorem arm_24 (W : World) (M : Nat) (v : Value) (l : List Nd) (n : Nat) (hN : Nodes W M v l) (hM : M ≤ W.heap.size) (hn : n < l.length) (hk : (nd l n).kind = 24) :
    Calls Tryz.prog 78 #[.agg #[v], .int .i64 (n : Int)] W fun e w' => e = .returned (.bool (kidR 24 l n)) ∧ Below W.heap.size W w' := by
  obtain ⟨bb, o, cap, ka, kc, W1, W2, rfl, hW1, hW2, hc1, hc2, hl1, hkl, HKA, hkc, hkm, ⟨c0, d0, d1, d2, d3, d4, s1, s2⟩, HCL, HREF, HB0⟩ := arm_start W M v l n hN hM hn
  obtain ⟨z0, z1, z2, z3, z4, z5⟩ := unhide HCL W2 (unhide HB0)
  have HZ0 := hide z0
  rw [hk] at hW2 d0 z2 HCL
  have hlt : (n : Int) < l.length := by omega
  have hn0 : (0 : Int) ≤ (n : Int) := by omega
  obtain ⟨nk, hnk⟩ : ∃ nk, (nd l n).kids.length = nk := ⟨_, rfl⟩
  have HNK := hide hnk
  rw [hnk] at hW2 d3 z3 HCL hkl hkc
  clear hN hk hnk z0
  have hBB := unhide HB0
  have HC1 : Hid (Calls Tryz.prog 109 #[.agg #[.slice (some ⟨bb, o, none⟩) l.length cap], .int .i64 (n : Int), .slice (some ⟨W2.heap.size, 0, none⟩) 2 2] (W2.alloc (.cells #[.int .i64 1000, .int .i64 1000] 3)) fun e w' => e = .returned (.bool (rowR l n [1000, 1000])) ∧ Below W2.heap.size W2 w') := (unhide HREF).row W2 (unhide HB0) [1000, 1000] (by decide) (by decide)
  cases h1 : rowR l n [1000, 1000] with
  | true =>
    have H1 := hide h1
    rw [h1] at HC1
    clear h1
    have HF : Hid (kidR 24 l n = true) := by show kidR 24 l n = _; simp [kidR, funcR, unhide HNK, unhide H1]
    go_enter Tryz.func78, Tryz.ntmps78
    go_wp2_with (first | (go_at_call 109; refine (unhide HC1).mono ?_; rintro e w3 ⟨rfl, hB3⟩; obtain ⟨y00, y01, y02, y03, y04, y05⟩ := unhide HCL w3 hB3))
    go_ret
    exact ⟨ret_b (unhide HF).symm, (unhide HCL w3 hB3).1⟩
  | false =>
    have H1 := hide h1
    rw [h1] at HC1
    clear h1
    have HF : Hid (kidR 24 l n = false) := by show kidR 24 l n = _; simp [kidR, funcR, unhide HNK, unhide H1]
    go_enter Tryz.func78, Tryz.ntmps78
    go_wp2_with (first | (go_at_call 109; refine (unhide HC1).mono ?_; rintro e w3 ⟨rfl, hB3⟩; obtain ⟨y00, y01, y02, y03, y04, y05⟩ := unhide HCL w3 hB3))
    go_ret
    exact ⟨ret_b (unhide HF).symm, (unhide HCL w3 hB3).1⟩
set_option maxRecDepth 100000 in
set_option maxHeartbeats 2000000 in
theorem arm_30 (W : World) (M : Nat) (v : Value) (l : List Nd) (n : Nat) (hN : Nodes W M v l) (hM : M ≤ W.heap.size) (hn : n < l.length) (hk : (nd l n).kind = 30) :
    Calls Tryz.prog 78 #[.agg #[v], .int .i64 (n : Int)] W fun e w' => e = .returned (.bool (kidR 30 l n)) ∧ Below W.heap.size W w' := by
  obtain ⟨bb, o, cap, ka, kc, W1, W2, rfl, hW1, hW2, hc1, hc2, hl1, hkl, HKA, hkc, hkm, ⟨c0, d0, d1, d2, d3, d4, s1, s2⟩, HCL, HREF, HB0⟩ := arm_start W M v l n hN hM hn
  obtain ⟨z0, z1, z2, z3, z4, z5⟩ := unhide HCL W2 (unhide HB0)
  have HZ0 := hide z0
  rw [hk] at hW2 d0 z2 HCL
  have hlt : (n : Int) < l.length := by omega
  have hn0 : (0 : Int) ≤ (n : Int) := by omega
  obtain ⟨nk, hnk⟩ : ∃ nk, (nd l n).kids.length = nk := ⟨_, rfl⟩
  have HNK := hide hnk
  rw [hnk] at hW2 d3 z3 HCL hkl hkc
  clear hN hk hnk z0
  have hBB := unhide HB0
  have HC1 : Hid (Calls Tryz.prog 109 #[.agg #[.slice (some ⟨bb, o, none⟩) l.length cap], .int .i64 (n : Int), .slice (some ⟨W2.heap.size, 0, none⟩) 2 2] (W2.alloc (.cells #[.int .i64 1000, .int .i64 1000] 3)) fun e w' => e = .returned (.bool (rowR l n [1000, 1000])) ∧ Below W2.heap.size W2 w') := (unhide HREF).row W2 (unhide HB0) [1000, 1000] (by decide) (by decide)
  cases h1 : rowR l n [1000, 1000] with
  | true =>
    have H1 := hide h1
    rw [h1] at HC1
    clear h1
    have HF : Hid (kidR 30 l n = true) := by show kidR 30 l n = _; simp [kidR, funcR, unhide HNK, unhide H1]
    go_enter Tryz.func78, Tryz.ntmps78
    go_wp2_with (first | (go_at_call 109; refine (unhide HC1).mono ?_; rintro e w3 ⟨rfl, hB3⟩; obtain ⟨y00, y01, y02, y03, y04, y05⟩ := unhide HCL w3 hB3))
    go_ret
    exact ⟨ret_b (unhide HF).symm, (unhide HCL w3 hB3).1⟩
  | false =>
    have H1 := hide h1
    rw [h1] at HC1
    clear h1
    have HF : Hid (kidR 30 l n = false) := by show kidR 30 l n = _; simp [kidR, funcR, unhide HNK, unhide H1]
    go_enter Tryz.func78, Tryz.ntmps78
    go_wp2_with (first | (go_at_call 109; refine (unhide HC1).mono ?_; rintro e w3 ⟨rfl, hB3⟩; obtain ⟨y00, y01, y02, y03, y04, y05⟩ := unhide HCL w3 hB3))
    go_ret
    exact ⟨ret_b (unhide HF).symm, (unhide HCL w3 hB3).1⟩
set_option maxRecDepth 100000 in
set_option maxHeartbeats 2000000 in
theorem arm_25 (W : World) (M : Nat) (v : Value) (l : List Nd) (n : Nat) (hN : Nodes W M v l) (hM : M ≤ W.heap.size) (hn : n < l.length) (hk : (nd l n).kind = 25) :
    Calls Tryz.prog 78 #[.agg #[v], .int .i64 (n : Int)] W fun e w' => e = .returned (.bool (kidR 25 l n)) ∧ Below W.heap.size W w' := by
  obtain ⟨bb, o, cap, ka, kc, W1, W2, rfl, hW1, hW2, hc1, hc2, hl1, hkl, HKA, hkc, hkm, ⟨c0, d0, d1, d2, d3, d4, s1, s2⟩, HCL, HREF, HB0⟩ := arm_start W M v l n hN hM hn
  obtain ⟨z0, z1, z2, z3, z4, z5⟩ := unhide HCL W2 (unhide HB0)
  have HZ0 := hide z0
  rw [hk] at hW2 d0 z2 HCL
  have hlt : (n : Int) < l.length := by omega
  have hn0 : (0 : Int) ≤ (n : Int) := by omega
  obtain ⟨nk, hnk⟩ : ∃ nk, (nd l n).kids.length = nk := ⟨_, rfl⟩
  have HNK := hide hnk
  rw [hnk] at hW2 d3 z3 HCL hkl hkc
  clear hN hk hnk z0
  have hBB := unhide HB0
  have HC1 : Hid (Calls Tryz.prog 109 #[.agg #[.slice (some ⟨bb, o, none⟩) l.length cap], .int .i64 (n : Int), .slice (some ⟨W2.heap.size, 0, none⟩) 3 3] (W2.alloc (.cells #[.int .i64 1000, .int .i64 1000, .int .i64 1000] 3)) fun e w' => e = .returned (.bool (rowR l n [1000, 1000, 1000])) ∧ Below W2.heap.size W2 w') := (unhide HREF).row W2 (unhide HB0) [1000, 1000, 1000] (by decide) (by decide)
  cases h1 : rowR l n [1000, 1000, 1000] with
  | true =>
    have H1 := hide h1
    rw [h1] at HC1
    clear h1
    have HF : Hid (kidR 25 l n = true) := by show kidR 25 l n = _; simp [kidR, funcR, unhide HNK, unhide H1]
    go_enter Tryz.func78, Tryz.ntmps78
    go_wp2_with (first | (go_at_call 109; refine (unhide HC1).mono ?_; rintro e w3 ⟨rfl, hB3⟩; obtain ⟨y00, y01, y02, y03, y04, y05⟩ := unhide HCL w3 hB3))
    go_ret
    exact ⟨ret_b (unhide HF).symm, (unhide HCL w3 hB3).1⟩
  | false =>
    have H1 := hide h1
    rw [h1] at HC1
    clear h1
    have HF : Hid (kidR 25 l n = false) := by show kidR 25 l n = _; simp [kidR, funcR, unhide HNK, unhide H1]
    go_enter Tryz.func78, Tryz.ntmps78
    go_wp2_with (first | (go_at_call 109; refine (unhide HC1).mono ?_; rintro e w3 ⟨rfl, hB3⟩; obtain ⟨y00, y01, y02, y03, y04, y05⟩ := unhide HCL w3 hB3))
    go_ret
    exact ⟨ret_b (unhide HF).symm, (unhide HCL w3 hB3).1⟩
set_option maxRecDepth 100000 in
set_option maxHeartbeats 2000000 in
theorem arm_33 (W : World) (M : Nat) (v : Value) (l : List Nd) (n : Nat) (hN : Nodes W M v l) (hM : M ≤ W.heap.size) (hn : n < l.length) (hk : (nd l n).kind = 33) :
    Calls Tryz.prog 78 #[.agg #[v], .int .i64 (n : Int)] W fun e w' => e = .returned (.bool (kidR 33 l n)) ∧ Below W.heap.size W w' := by
  obtain ⟨bb, o, cap, ka, kc, W1, W2, rfl, hW1, hW2, hc1, hc2, hl1, hkl, HKA, hkc, hkm, ⟨c0, d0, d1, d2, d3, d4, s1, s2⟩, HCL, HREF, HB0⟩ := arm_start W M v l n hN hM hn
  obtain ⟨z0, z1, z2, z3, z4, z5⟩ := unhide HCL W2 (unhide HB0)
  have HZ0 := hide z0
  rw [hk] at hW2 d0 z2 HCL
  have hlt : (n : Int) < l.length := by omega
  have hn0 : (0 : Int) ≤ (n : Int) := by omega
  obtain ⟨nk, hnk⟩ : ∃ nk, (nd l n).kids.length = nk := ⟨_, rfl⟩
  have HNK := hide hnk
  rw [hnk] at hW2 d3 z3 HCL hkl hkc
  clear hN hk hnk z0
  have hBB := unhide HB0
  have HC1 : Hid (Calls Tryz.prog 109 #[.agg #[.slice (some ⟨bb, o, none⟩) l.length cap], .int .i64 (n : Int), .slice (some ⟨W2.heap.size, 0, none⟩) 2 2] (W2.alloc (.cells #[.int .i64 1000, .int .i64 1001] 3)) fun e w' => e = .returned (.bool (rowR l n [1000, 1001])) ∧ Below W2.heap.size W2 w') := (unhide HREF).row W2 (unhide HB0) [1000, 1001] (by decide) (by decide)
  cases h1 : rowR l n [1000, 1001] with
  | true =>
    have H1 := hide h1
    rw [h1] at HC1
    clear h1
    have HF : Hid (kidR 33 l n = true) := by show kidR 33 l n = _; simp [kidR, funcR, unhide HNK, unhide H1]
    go_enter Tryz.func78, Tryz.ntmps78
    go_wp2_with (first | (go_at_call 109; refine (unhide HC1).mono ?_; rintro e w3 ⟨rfl, hB3⟩; obtain ⟨y00, y01, y02, y03, y04, y05⟩ := unhide HCL w3 hB3))
    go_ret
    exact ⟨ret_b (unhide HF).symm, (unhide HCL w3 hB3).1⟩
  | false =>
    have H1 := hide h1
    rw [h1] at HC1
    clear h1
    have HF : Hid (kidR 33 l n = false) := by show kidR 33 l n = _; simp [kidR, funcR, unhide HNK, unhide H1]
    go_enter Tryz.func78, Tryz.ntmps78
    go_wp2_with (first | (go_at_call 109; refine (unhide HC1).mono ?_; rintro e w3 ⟨rfl, hB3⟩; obtain ⟨y00, y01, y02, y03, y04, y05⟩ := unhide HCL w3 hB3))
    go_ret
    exact ⟨ret_b (unhide HF).symm, (unhide HCL w3 hB3).1⟩
set_option maxRecDepth 100000 in
set_option maxHeartbeats 2000000 in
theorem arm_27 (W : World) (M : Nat) (v : Value) (l : List Nd) (n : Nat) (hN : Nodes W M v l) (hM : M ≤ W.heap.size) (hn : n < l.length) (hk : (nd l n).kind = 27) :
    Calls Tryz.prog 78 #[.agg #[v], .int .i64 (n : Int)] W fun e w' => e = .returned (.bool (kidR 27 l n)) ∧ Below W.heap.size W w' := by
  obtain ⟨bb, o, cap, ka, kc, W1, W2, rfl, hW1, hW2, hc1, hc2, hl1, hkl, HKA, hkc, hkm, ⟨c0, d0, d1, d2, d3, d4, s1, s2⟩, HCL, HREF, HB0⟩ := arm_start W M v l n hN hM hn
  obtain ⟨z0, z1, z2, z3, z4, z5⟩ := unhide HCL W2 (unhide HB0)
  have HZ0 := hide z0
  rw [hk] at hW2 d0 z2 HCL
  have hlt : (n : Int) < l.length := by omega
  have hn0 : (0 : Int) ≤ (n : Int) := by omega
  obtain ⟨nk, hnk⟩ : ∃ nk, (nd l n).kids.length = nk := ⟨_, rfl⟩
  have HNK := hide hnk
  rw [hnk] at hW2 d3 z3 HCL hkl hkc
  clear hN hk hnk z0
  have hBB := unhide HB0
  have HC1 : Hid (Calls Tryz.prog 109 #[.agg #[.slice (some ⟨bb, o, none⟩) l.length cap], .int .i64 (n : Int), .slice (some ⟨W2.heap.size, 0, none⟩) 3 3] (W2.alloc (.cells #[.int .i64 1000, .int .i64 2, .int .i64 2] 3)) fun e w' => e = .returned (.bool (rowR l n [1000, 2, 2])) ∧ Below W2.heap.size W2 w') := (unhide HREF).row W2 (unhide HB0) [1000, 2, 2] (by decide) (by decide)
  cases h1 : rowR l n [1000, 2, 2] with
  | true =>
    have H1 := hide h1
    rw [h1] at HC1
    clear h1
    have HC2 : Hid (∀ w, Below W2.heap.size W2 w → Calls Tryz.prog 108 #[.agg #[.slice (some ⟨bb, o, none⟩) l.length cap], .int .i64 (n : Int), .int .i64 1, .int .i64 1001] w fun e w' => e = .returned (.bool (listR l n 1 1001)) ∧ Below W2.heap.size W2 w') := fun w hw => (unhide HREF).list w hw 1 1001 (by decide)
    cases h2 : listR l n 1 1001 with
    | true =>
      have H2 := hide h2
      rw [h2] at HC2
      clear h2
      have HC3 : Hid (∀ w, Below W2.heap.size W2 w → Calls Tryz.prog 108 #[.agg #[.slice (some ⟨bb, o, none⟩) l.length cap], .int .i64 (n : Int), .int .i64 2, .int .i64 1000] w fun e w' => e = .returned (.bool (listR l n 2 1000)) ∧ Below W2.heap.size W2 w') := fun w hw => (unhide HREF).list w hw 2 1000 (by decide)
      cases h3 : listR l n 2 1000 with
      | true =>
        have H3 := hide h3
        rw [h3] at HC3
        clear h3
        have HF : Hid (kidR 27 l n = true) := by show kidR 27 l n = _; simp [kidR, funcR, unhide HNK, unhide H1, unhide H2, unhide H3]
        go_enter Tryz.func78, Tryz.ntmps78
        go_wp2_with (first | (go_at_call 109; refine (unhide HC1).mono ?_; rintro e w3 ⟨rfl, hB3⟩; obtain ⟨y00, y01, y02, y03, y04, y05⟩ := unhide HCL w3 hB3) | (go_at_call_of 108 (1001 : Int); refine (unhide HC2 _ (by assumption)).mono ?_; rintro e w4 ⟨rfl, hB4⟩; obtain ⟨y10, y11, y12, y13, y14, y15⟩ := unhide HCL w4 hB4) | (go_at_call_of 108 (1000 : Int); refine (unhide HC3 _ (by assumption)).mono ?_; rintro e w5 ⟨rfl, hB5⟩; obtain ⟨y20, y21, y22, y23, y24, y25⟩ := unhide HCL w5 hB5))
        go_ret
        exact ⟨ret_b (unhide HF).symm, (unhide HCL w5 hB5).1⟩
      | false =>
        have H3 := hide h3
        rw [h3] at HC3
        clear h3
        have HF : Hid (kidR 27 l n = false) := by show kidR 27 l n = _; simp [kidR, funcR, unhide HNK, unhide H1, unhide H2, unhide H3]
        go_enter Tryz.func78, Tryz.ntmps78
        go_wp2_with (first | (go_at_call 109; refine (unhide HC1).mono ?_; rintro e w3 ⟨rfl, hB3⟩; obtain ⟨y00, y01, y02, y03, y04, y05⟩ := unhide HCL w3 hB3) | (go_at_call_of 108 (1001 : Int); refine (unhide HC2 _ (by assumption)).mono ?_; rintro e w4 ⟨rfl, hB4⟩; obtain ⟨y10, y11, y12, y13, y14, y15⟩ := unhide HCL w4 hB4) | (go_at_call_of 108 (1000 : Int); refine (unhide HC3 _ (by assumption)).mono ?_; rintro e w5 ⟨rfl, hB5⟩; obtain ⟨y20, y21, y22, y23, y24, y25⟩ := unhide HCL w5 hB5))
        go_ret
        exact ⟨ret_b (unhide HF).symm, (unhide HCL w5 hB5).1⟩
    | false =>
      have H2 := hide h2
      rw [h2] at HC2
      clear h2
      have HF : Hid (kidR 27 l n = false) := by show kidR 27 l n = _; simp [kidR, funcR, unhide HNK, unhide H1, unhide H2]
      go_enter Tryz.func78, Tryz.ntmps78
      go_wp2_with (first | (go_at_call 109; refine (unhide HC1).mono ?_; rintro e w3 ⟨rfl, hB3⟩; obtain ⟨y00, y01, y02, y03, y04, y05⟩ := unhide HCL w3 hB3) | (go_at_call_of 108 (1001 : Int); refine (unhide HC2 _ (by assumption)).mono ?_; rintro e w4 ⟨rfl, hB4⟩; obtain ⟨y10, y11, y12, y13, y14, y15⟩ := unhide HCL w4 hB4))
      go_ret
      exact ⟨ret_b (unhide HF).symm, (unhide HCL w4 hB4).1⟩
  | false =>
    have H1 := hide h1
    rw [h1] at HC1
    clear h1
    have HF : Hid (kidR 27 l n = false) := by show kidR 27 l n = _; simp [kidR, funcR, unhide HNK, unhide H1]
    go_enter Tryz.func78, Tryz.ntmps78
    go_wp2_with (first | (go_at_call 109; refine (unhide HC1).mono ?_; rintro e w3 ⟨rfl, hB3⟩; obtain ⟨y00, y01, y02, y03, y04, y05⟩ := unhide HCL w3 hB3))
    go_ret
    exact ⟨ret_b (unhide HF).symm, (unhide HCL w3 hB3).1⟩
end Go.Proofs.YtnnpkomedpjlcaaGreatDoor

/- The reference's kids of more expressions. -/
namespace Go.Proofs.YtnnpkomedpjlcaaGreatDoor
set_option linter.unusedSimpArgs false
set_option linter.unusedVariables false
open Go.RowKit
attribute [local go_sem] fld0 fld2

set_option maxRecDepth 100000 in
set_option maxHeartbeats 2000000 in
theorem arm_31 (W : World) (M : Nat) (v : Value) (l : List Nd) (n : Nat) (hN : Nodes W M v l) (hM : M ≤ W.heap.size) (hn : n < l.length) (hk : (nd l n).kind = 31) :
    Calls Tryz.prog 78 #[.agg #[v], .int .i64 (n : Int)] W fun e w' => e = .returned (.bool (kidR 31 l n)) ∧ Below W.heap.size W w' := by
  obtain ⟨bb, o, cap, ka, kc, W1, W2, rfl, hW1, hW2, hc1, hc2, hl1, hkl, HKA, hkc, hkm, ⟨c0, d0, d1, d2, d3, d4, s1, s2⟩, HCL, HREF, HB0⟩ := arm_start W M v l n hN hM hn
  obtain ⟨z0, z1, z2, z3, z4, z5⟩ := unhide HCL W2 (unhide HB0)
  have HZ0 := hide z0
  rw [hk] at hW2 d0 z2 HCL
  have hlt : (n : Int) < l.length := by omega
  have hn0 : (0 : Int) ≤ (n : Int) := by omega
  obtain ⟨nk, hnk⟩ : ∃ nk, (nd l n).kids.length = nk := ⟨_, rfl⟩
  have HNK := hide hnk
  rw [hnk] at hW2 d3 z3 HCL hkl hkc
  clear hN hk hnk z0
  have hBB := unhide HB0
  by_cases h1 : nk = 1
  case pos =>
    have g1_h1 : (nk : Int) = 1 := by omega
    have H1 := hide h1
    clear h1
    have HC2 : Hid (∀ w, Below W2.heap.size W2 w → Calls Tryz.prog 108 #[.agg #[.slice (some ⟨bb, o, none⟩) l.length cap], .int .i64 (n : Int), .int .i64 0, .int .i64 1000] w fun e w' => e = .returned (.bool (listR l n 0 1000)) ∧ Below W2.heap.size W2 w') := fun w hw => (unhide HREF).list w hw 0 1000 (by decide)
    cases h2 : listR l n 0 1000 with
    | true =>
      have H2 := hide h2
      rw [h2] at HC2
      clear h2
      have HF : Hid (kidR 31 l n = true) := by show kidR 31 l n = _; simp [kidR, funcR, unhide HNK, unhide H1, unhide H2]
      go_enter Tryz.func78, Tryz.ntmps78
      go_wp2_with (first | (go_at_call_of 108 (1000 : Int); refine (unhide HC2 _ (by assumption)).mono ?_; rintro e w3 ⟨rfl, hB3⟩; obtain ⟨y00, y01, y02, y03, y04, y05⟩ := unhide HCL w3 hB3))
      go_ret
      exact ⟨ret_b (unhide HF).symm, (unhide HCL w3 hB3).1⟩
    | false =>
      have H2 := hide h2
      rw [h2] at HC2
      clear h2
      have HF : Hid (kidR 31 l n = false) := by show kidR 31 l n = _; simp [kidR, funcR, unhide HNK, unhide H1, unhide H2]
      go_enter Tryz.func78, Tryz.ntmps78
      go_wp2_with (first | (go_at_call_of 108 (1000 : Int); refine (unhide HC2 _ (by assumption)).mono ?_; rintro e w3 ⟨rfl, hB3⟩; obtain ⟨y00, y01, y02, y03, y04, y05⟩ := unhide HCL w3 hB3))
      go_ret
      exact ⟨ret_b (unhide HF).symm, (unhide HCL w3 hB3).1⟩
  case neg =>
    have g2_h1 : ¬ (nk : Int) = 1 := by omega
    have gb2_h1 : ((nk : Int) == 1) = false := by simpa using g2_h1
    have H1 := hide h1
    clear h1
    have HF : Hid (kidR 31 l n = false) := by show kidR 31 l n = _; simp [kidR, funcR, unhide HNK, unhide H1]
    go_enter Tryz.func78, Tryz.ntmps78
    go_wp2
    go_ret
    exact ⟨ret_b (unhide HF).symm, unhide HZ0⟩
set_option maxRecDepth 100000 in
set_option maxHeartbeats 2000000 in
theorem arm_10 (W : World) (M : Nat) (v : Value) (l : List Nd) (n : Nat) (hN : Nodes W M v l) (hM : M ≤ W.heap.size) (hn : n < l.length) (hk : (nd l n).kind = 10) :
    Calls Tryz.prog 78 #[.agg #[v], .int .i64 (n : Int)] W fun e w' => e = .returned (.bool (kidR 10 l n)) ∧ Below W.heap.size W w' := by
  obtain ⟨bb, o, cap, ka, kc, W1, W2, rfl, hW1, hW2, hc1, hc2, hl1, hkl, HKA, hkc, hkm, ⟨c0, d0, d1, d2, d3, d4, s1, s2⟩, HCL, HREF, HB0⟩ := arm_start W M v l n hN hM hn
  obtain ⟨z0, z1, z2, z3, z4, z5⟩ := unhide HCL W2 (unhide HB0)
  have HZ0 := hide z0
  rw [hk] at hW2 d0 z2 HCL
  have hlt : (n : Int) < l.length := by omega
  have hn0 : (0 : Int) ≤ (n : Int) := by omega
  obtain ⟨nk, hnk⟩ : ∃ nk, (nd l n).kids.length = nk := ⟨_, rfl⟩
  have HNK := hide hnk
  rw [hnk] at hW2 d3 z3 HCL hkl hkc
  clear hN hk hnk z0
  have hBB := unhide HB0
  by_cases h1 : nk = 0
  case pos =>
    have g1_h1 : (nk : Int) = 0 := by omega
    have H1 := hide h1
    clear h1
    have HF : Hid (kidR 10 l n = true) := by show kidR 10 l n = _; simp [kidR, funcR, unhide HNK, unhide H1]
    go_enter Tryz.func78, Tryz.ntmps78
    go_wp2
    go_ret
    exact ⟨ret_b (unhide HF).symm, unhide HZ0⟩
  case neg =>
    have g1_h1 : ¬ (nk : Int) = 0 := by omega
    have gb1_h1 : ((nk : Int) == 0) = false := by simpa using g1_h1
    have H1 := hide h1
    clear h1
    have HF : Hid (kidR 10 l n = false) := by show kidR 10 l n = _; simp [kidR, funcR, unhide HNK, unhide H1]
    go_enter Tryz.func78, Tryz.ntmps78
    go_wp2
    go_ret
    exact ⟨ret_b (unhide HF).symm, unhide HZ0⟩
set_option maxRecDepth 100000 in
set_option maxHeartbeats 2000000 in
theorem arm_11 (W : World) (M : Nat) (v : Value) (l : List Nd) (n : Nat) (hN : Nodes W M v l) (hM : M ≤ W.heap.size) (hn : n < l.length) (hk : (nd l n).kind = 11) :
    Calls Tryz.prog 78 #[.agg #[v], .int .i64 (n : Int)] W fun e w' => e = .returned (.bool (kidR 11 l n)) ∧ Below W.heap.size W w' := by
  obtain ⟨bb, o, cap, ka, kc, W1, W2, rfl, hW1, hW2, hc1, hc2, hl1, hkl, HKA, hkc, hkm, ⟨c0, d0, d1, d2, d3, d4, s1, s2⟩, HCL, HREF, HB0⟩ := arm_start W M v l n hN hM hn
  obtain ⟨z0, z1, z2, z3, z4, z5⟩ := unhide HCL W2 (unhide HB0)
  have HZ0 := hide z0
  rw [hk] at hW2 d0 z2 HCL
  have hlt : (n : Int) < l.length := by omega
  have hn0 : (0 : Int) ≤ (n : Int) := by omega
  obtain ⟨nk, hnk⟩ : ∃ nk, (nd l n).kids.length = nk := ⟨_, rfl⟩
  have HNK := hide hnk
  rw [hnk] at hW2 d3 z3 HCL hkl hkc
  clear hN hk hnk z0
  have hBB := unhide HB0
  by_cases h1 : nk = 0
  case pos =>
    have g1_h1 : (nk : Int) = 0 := by omega
    have H1 := hide h1
    clear h1
    have HF : Hid (kidR 11 l n = true) := by show kidR 11 l n = _; simp [kidR, funcR, unhide HNK, unhide H1]
    go_enter Tryz.func78, Tryz.ntmps78
    go_wp2
    go_ret
    exact ⟨ret_b (unhide HF).symm, unhide HZ0⟩
  case neg =>
    have g1_h1 : ¬ (nk : Int) = 0 := by omega
    have gb1_h1 : ((nk : Int) == 0) = false := by simpa using g1_h1
    have H1 := hide h1
    clear h1
    have HF : Hid (kidR 11 l n = false) := by show kidR 11 l n = _; simp [kidR, funcR, unhide HNK, unhide H1]
    go_enter Tryz.func78, Tryz.ntmps78
    go_wp2
    go_ret
    exact ⟨ret_b (unhide HF).symm, unhide HZ0⟩
set_option maxRecDepth 100000 in
set_option maxHeartbeats 2000000 in
theorem arm_13 (W : World) (M : Nat) (v : Value) (l : List Nd) (n : Nat) (hN : Nodes W M v l) (hM : M ≤ W.heap.size) (hn : n < l.length) (hk : (nd l n).kind = 13) :
    Calls Tryz.prog 78 #[.agg #[v], .int .i64 (n : Int)] W fun e w' => e = .returned (.bool (kidR 13 l n)) ∧ Below W.heap.size W w' := by
  obtain ⟨bb, o, cap, ka, kc, W1, W2, rfl, hW1, hW2, hc1, hc2, hl1, hkl, HKA, hkc, hkm, ⟨c0, d0, d1, d2, d3, d4, s1, s2⟩, HCL, HREF, HB0⟩ := arm_start W M v l n hN hM hn
  obtain ⟨z0, z1, z2, z3, z4, z5⟩ := unhide HCL W2 (unhide HB0)
  have HZ0 := hide z0
  rw [hk] at hW2 d0 z2 HCL
  have hlt : (n : Int) < l.length := by omega
  have hn0 : (0 : Int) ≤ (n : Int) := by omega
  obtain ⟨nk, hnk⟩ : ∃ nk, (nd l n).kids.length = nk := ⟨_, rfl⟩
  have HNK := hide hnk
  rw [hnk] at hW2 d3 z3 HCL hkl hkc
  clear hN hk hnk z0
  have hBB := unhide HB0
  by_cases h1 : nk = 0
  case pos =>
    have g1_h1 : (nk : Int) = 0 := by omega
    have H1 := hide h1
    clear h1
    have HF : Hid (kidR 13 l n = true) := by show kidR 13 l n = _; simp [kidR, funcR, unhide HNK, unhide H1]
    go_enter Tryz.func78, Tryz.ntmps78
    go_wp2
    go_ret
    exact ⟨ret_b (unhide HF).symm, unhide HZ0⟩
  case neg =>
    have g1_h1 : ¬ (nk : Int) = 0 := by omega
    have gb1_h1 : ((nk : Int) == 0) = false := by simpa using g1_h1
    have H1 := hide h1
    clear h1
    have HF : Hid (kidR 13 l n = false) := by show kidR 13 l n = _; simp [kidR, funcR, unhide HNK, unhide H1]
    go_enter Tryz.func78, Tryz.ntmps78
    go_wp2
    go_ret
    exact ⟨ret_b (unhide HF).symm, unhide HZ0⟩
set_option maxRecDepth 100000 in
set_option maxHeartbeats 2000000 in
theorem arm_14 (W : World) (M : Nat) (v : Value) (l : List Nd) (n : Nat) (hN : Nodes W M v l) (hM : M ≤ W.heap.size) (hn : n < l.length) (hk : (nd l n).kind = 14) :
    Calls Tryz.prog 78 #[.agg #[v], .int .i64 (n : Int)] W fun e w' => e = .returned (.bool (kidR 14 l n)) ∧ Below W.heap.size W w' := by
  obtain ⟨bb, o, cap, ka, kc, W1, W2, rfl, hW1, hW2, hc1, hc2, hl1, hkl, HKA, hkc, hkm, ⟨c0, d0, d1, d2, d3, d4, s1, s2⟩, HCL, HREF, HB0⟩ := arm_start W M v l n hN hM hn
  obtain ⟨z0, z1, z2, z3, z4, z5⟩ := unhide HCL W2 (unhide HB0)
  have HZ0 := hide z0
  rw [hk] at hW2 d0 z2 HCL
  have hlt : (n : Int) < l.length := by omega
  have hn0 : (0 : Int) ≤ (n : Int) := by omega
  obtain ⟨nk, hnk⟩ : ∃ nk, (nd l n).kids.length = nk := ⟨_, rfl⟩
  have HNK := hide hnk
  rw [hnk] at hW2 d3 z3 HCL hkl hkc
  clear hN hk hnk z0
  have hBB := unhide HB0
  by_cases h1 : nk = 0
  case pos =>
    have g1_h1 : (nk : Int) = 0 := by omega
    have H1 := hide h1
    clear h1
    have HF : Hid (kidR 14 l n = true) := by show kidR 14 l n = _; simp [kidR, funcR, unhide HNK, unhide H1]
    go_enter Tryz.func78, Tryz.ntmps78
    go_wp2
    go_ret
    exact ⟨ret_b (unhide HF).symm, unhide HZ0⟩
  case neg =>
    have g1_h1 : ¬ (nk : Int) = 0 := by omega
    have gb1_h1 : ((nk : Int) == 0) = false := by simpa using g1_h1
    have H1 := hide h1
    clear h1
    have HF : Hid (kidR 14 l n = false) := by show kidR 14 l n = _; simp [kidR, funcR, unhide HNK, unhide H1]
    go_enter Tryz.func78, Tryz.ntmps78
    go_wp2
    go_ret
    exact ⟨ret_b (unhide HF).symm, unhide HZ0⟩
set_option maxRecDepth 100000 in
set_option maxHeartbeats 2000000 in
theorem arm_15 (W : World) (M : Nat) (v : Value) (l : List Nd) (n : Nat) (hN : Nodes W M v l) (hM : M ≤ W.heap.size) (hn : n < l.length) (hk : (nd l n).kind = 15) :
    Calls Tryz.prog 78 #[.agg #[v], .int .i64 (n : Int)] W fun e w' => e = .returned (.bool (kidR 15 l n)) ∧ Below W.heap.size W w' := by
  obtain ⟨bb, o, cap, ka, kc, W1, W2, rfl, hW1, hW2, hc1, hc2, hl1, hkl, HKA, hkc, hkm, ⟨c0, d0, d1, d2, d3, d4, s1, s2⟩, HCL, HREF, HB0⟩ := arm_start W M v l n hN hM hn
  obtain ⟨z0, z1, z2, z3, z4, z5⟩ := unhide HCL W2 (unhide HB0)
  have HZ0 := hide z0
  rw [hk] at hW2 d0 z2 HCL
  have hlt : (n : Int) < l.length := by omega
  have hn0 : (0 : Int) ≤ (n : Int) := by omega
  obtain ⟨nk, hnk⟩ : ∃ nk, (nd l n).kids.length = nk := ⟨_, rfl⟩
  have HNK := hide hnk
  rw [hnk] at hW2 d3 z3 HCL hkl hkc
  clear hN hk hnk z0
  have hBB := unhide HB0
  by_cases h1 : nk = 0
  case pos =>
    have g1_h1 : (nk : Int) = 0 := by omega
    have H1 := hide h1
    clear h1
    have HF : Hid (kidR 15 l n = true) := by show kidR 15 l n = _; simp [kidR, funcR, unhide HNK, unhide H1]
    go_enter Tryz.func78, Tryz.ntmps78
    go_wp2
    go_ret
    exact ⟨ret_b (unhide HF).symm, unhide HZ0⟩
  case neg =>
    have g1_h1 : ¬ (nk : Int) = 0 := by omega
    have gb1_h1 : ((nk : Int) == 0) = false := by simpa using g1_h1
    have H1 := hide h1
    clear h1
    have HF : Hid (kidR 15 l n = false) := by show kidR 15 l n = _; simp [kidR, funcR, unhide HNK, unhide H1]
    go_enter Tryz.func78, Tryz.ntmps78
    go_wp2
    go_ret
    exact ⟨ret_b (unhide HF).symm, unhide HZ0⟩
set_option maxRecDepth 100000 in
set_option maxHeartbeats 2000000 in
theorem arm_16 (W : World) (M : Nat) (v : Value) (l : List Nd) (n : Nat) (hN : Nodes W M v l) (hM : M ≤ W.heap.size) (hn : n < l.length) (hk : (nd l n).kind = 16) :
    Calls Tryz.prog 78 #[.agg #[v], .int .i64 (n : Int)] W fun e w' => e = .returned (.bool (kidR 16 l n)) ∧ Below W.heap.size W w' := by
  obtain ⟨bb, o, cap, ka, kc, W1, W2, rfl, hW1, hW2, hc1, hc2, hl1, hkl, HKA, hkc, hkm, ⟨c0, d0, d1, d2, d3, d4, s1, s2⟩, HCL, HREF, HB0⟩ := arm_start W M v l n hN hM hn
  obtain ⟨z0, z1, z2, z3, z4, z5⟩ := unhide HCL W2 (unhide HB0)
  have HZ0 := hide z0
  rw [hk] at hW2 d0 z2 HCL
  have hlt : (n : Int) < l.length := by omega
  have hn0 : (0 : Int) ≤ (n : Int) := by omega
  obtain ⟨nk, hnk⟩ : ∃ nk, (nd l n).kids.length = nk := ⟨_, rfl⟩
  have HNK := hide hnk
  rw [hnk] at hW2 d3 z3 HCL hkl hkc
  clear hN hk hnk z0
  have hBB := unhide HB0
  by_cases h1 : nk = 0
  case pos =>
    have g1_h1 : (nk : Int) = 0 := by omega
    have H1 := hide h1
    clear h1
    have HF : Hid (kidR 16 l n = true) := by show kidR 16 l n = _; simp [kidR, funcR, unhide HNK, unhide H1]
    go_enter Tryz.func78, Tryz.ntmps78
    go_wp2
    go_ret
    exact ⟨ret_b (unhide HF).symm, unhide HZ0⟩
  case neg =>
    have g1_h1 : ¬ (nk : Int) = 0 := by omega
    have gb1_h1 : ((nk : Int) == 0) = false := by simpa using g1_h1
    have H1 := hide h1
    clear h1
    have HF : Hid (kidR 16 l n = false) := by show kidR 16 l n = _; simp [kidR, funcR, unhide HNK, unhide H1]
    go_enter Tryz.func78, Tryz.ntmps78
    go_wp2
    go_ret
    exact ⟨ret_b (unhide HF).symm, unhide HZ0⟩
set_option maxRecDepth 100000 in
set_option maxHeartbeats 2000000 in
theorem arm_17 (W : World) (M : Nat) (v : Value) (l : List Nd) (n : Nat) (hN : Nodes W M v l) (hM : M ≤ W.heap.size) (hn : n < l.length) (hk : (nd l n).kind = 17) :
    Calls Tryz.prog 78 #[.agg #[v], .int .i64 (n : Int)] W fun e w' => e = .returned (.bool (kidR 17 l n)) ∧ Below W.heap.size W w' := by
  obtain ⟨bb, o, cap, ka, kc, W1, W2, rfl, hW1, hW2, hc1, hc2, hl1, hkl, HKA, hkc, hkm, ⟨c0, d0, d1, d2, d3, d4, s1, s2⟩, HCL, HREF, HB0⟩ := arm_start W M v l n hN hM hn
  obtain ⟨z0, z1, z2, z3, z4, z5⟩ := unhide HCL W2 (unhide HB0)
  have HZ0 := hide z0
  rw [hk] at hW2 d0 z2 HCL
  have hlt : (n : Int) < l.length := by omega
  have hn0 : (0 : Int) ≤ (n : Int) := by omega
  obtain ⟨nk, hnk⟩ : ∃ nk, (nd l n).kids.length = nk := ⟨_, rfl⟩
  have HNK := hide hnk
  rw [hnk] at hW2 d3 z3 HCL hkl hkc
  clear hN hk hnk z0
  have hBB := unhide HB0
  by_cases h1 : nk = 0
  case pos =>
    have g1_h1 : (nk : Int) = 0 := by omega
    have H1 := hide h1
    clear h1
    have HF : Hid (kidR 17 l n = true) := by show kidR 17 l n = _; simp [kidR, funcR, unhide HNK, unhide H1]
    go_enter Tryz.func78, Tryz.ntmps78
    go_wp2
    go_ret
    exact ⟨ret_b (unhide HF).symm, unhide HZ0⟩
  case neg =>
    have g1_h1 : ¬ (nk : Int) = 0 := by omega
    have gb1_h1 : ((nk : Int) == 0) = false := by simpa using g1_h1
    have H1 := hide h1
    clear h1
    have HF : Hid (kidR 17 l n = false) := by show kidR 17 l n = _; simp [kidR, funcR, unhide HNK, unhide H1]
    go_enter Tryz.func78, Tryz.ntmps78
    go_wp2
    go_ret
    exact ⟨ret_b (unhide HF).symm, unhide HZ0⟩
set_option maxRecDepth 100000 in
set_option maxHeartbeats 2000000 in
theorem arm_18 (W : World) (M : Nat) (v : Value) (l : List Nd) (n : Nat) (hN : Nodes W M v l) (hM : M ≤ W.heap.size) (hn : n < l.length) (hk : (nd l n).kind = 18) :
    Calls Tryz.prog 78 #[.agg #[v], .int .i64 (n : Int)] W fun e w' => e = .returned (.bool (kidR 18 l n)) ∧ Below W.heap.size W w' := by
  obtain ⟨bb, o, cap, ka, kc, W1, W2, rfl, hW1, hW2, hc1, hc2, hl1, hkl, HKA, hkc, hkm, ⟨c0, d0, d1, d2, d3, d4, s1, s2⟩, HCL, HREF, HB0⟩ := arm_start W M v l n hN hM hn
  obtain ⟨z0, z1, z2, z3, z4, z5⟩ := unhide HCL W2 (unhide HB0)
  have HZ0 := hide z0
  rw [hk] at hW2 d0 z2 HCL
  have hlt : (n : Int) < l.length := by omega
  have hn0 : (0 : Int) ≤ (n : Int) := by omega
  obtain ⟨nk, hnk⟩ : ∃ nk, (nd l n).kids.length = nk := ⟨_, rfl⟩
  have HNK := hide hnk
  rw [hnk] at hW2 d3 z3 HCL hkl hkc
  clear hN hk hnk z0
  have hBB := unhide HB0
  by_cases h1 : nk = 0
  case pos =>
    have g1_h1 : (nk : Int) = 0 := by omega
    have H1 := hide h1
    clear h1
    have HF : Hid (kidR 18 l n = true) := by show kidR 18 l n = _; simp [kidR, funcR, unhide HNK, unhide H1]
    go_enter Tryz.func78, Tryz.ntmps78
    go_wp2
    go_ret
    exact ⟨ret_b (unhide HF).symm, unhide HZ0⟩
  case neg =>
    have g1_h1 : ¬ (nk : Int) = 0 := by omega
    have gb1_h1 : ((nk : Int) == 0) = false := by simpa using g1_h1
    have H1 := hide h1
    clear h1
    have HF : Hid (kidR 18 l n = false) := by show kidR 18 l n = _; simp [kidR, funcR, unhide HNK, unhide H1]
    go_enter Tryz.func78, Tryz.ntmps78
    go_wp2
    go_ret
    exact ⟨ret_b (unhide HF).symm, unhide HZ0⟩
set_option maxRecDepth 100000 in
set_option maxHeartbeats 2000000 in
theorem arm_32 (W : World) (M : Nat) (v : Value) (l : List Nd) (n : Nat) (hN : Nodes W M v l) (hM : M ≤ W.heap.size) (hn : n < l.length) (hk : (nd l n).kind = 32) :
    Calls Tryz.prog 78 #[.agg #[v], .int .i64 (n : Int)] W fun e w' => e = .returned (.bool (kidR 32 l n)) ∧ Below W.heap.size W w' := by
  obtain ⟨bb, o, cap, ka, kc, W1, W2, rfl, hW1, hW2, hc1, hc2, hl1, hkl, HKA, hkc, hkm, ⟨c0, d0, d1, d2, d3, d4, s1, s2⟩, HCL, HREF, HB0⟩ := arm_start W M v l n hN hM hn
  obtain ⟨z0, z1, z2, z3, z4, z5⟩ := unhide HCL W2 (unhide HB0)
  have HZ0 := hide z0
  rw [hk] at hW2 d0 z2 HCL
  have hlt : (n : Int) < l.length := by omega
  have hn0 : (0 : Int) ≤ (n : Int) := by omega
  obtain ⟨nk, hnk⟩ : ∃ nk, (nd l n).kids.length = nk := ⟨_, rfl⟩
  have HNK := hide hnk
  rw [hnk] at hW2 d3 z3 HCL hkl hkc
  clear hN hk hnk z0
  have hBB := unhide HB0
  by_cases h1 : nk = 0
  case pos =>
    have g1_h1 : (nk : Int) = 0 := by omega
    have H1 := hide h1
    clear h1
    have HF : Hid (kidR 32 l n = true) := by show kidR 32 l n = _; simp [kidR, funcR, unhide HNK, unhide H1]
    go_enter Tryz.func78, Tryz.ntmps78
    go_wp2
    go_ret
    exact ⟨ret_b (unhide HF).symm, unhide HZ0⟩
  case neg =>
    have g1_h1 : ¬ (nk : Int) = 0 := by omega
    have gb1_h1 : ((nk : Int) == 0) = false := by simpa using g1_h1
    have H1 := hide h1
    clear h1
    have HF : Hid (kidR 32 l n = false) := by show kidR 32 l n = _; simp [kidR, funcR, unhide HNK, unhide H1]
    go_enter Tryz.func78, Tryz.ntmps78
    go_wp2
    go_ret
    exact ⟨ret_b (unhide HF).symm, unhide HZ0⟩
set_option maxRecDepth 100000 in
set_option maxHeartbeats 2000000 in
theorem arm_22 (W : World) (M : Nat) (v : Value) (l : List Nd) (n : Nat) (hN : Nodes W M v l) (hM : M ≤ W.heap.size) (hn : n < l.length) (hk : (nd l n).kind = 22) :
    Calls Tryz.prog 78 #[.agg #[v], .int .i64 (n : Int)] W fun e w' => e = .returned (.bool (kidR 22 l n)) ∧ Below W.heap.size W w' := by
  obtain ⟨bb, o, cap, ka, kc, W1, W2, rfl, hW1, hW2, hc1, hc2, hl1, hkl, HKA, hkc, hkm, ⟨c0, d0, d1, d2, d3, d4, s1, s2⟩, HCL, HREF, HB0⟩ := arm_start W M v l n hN hM hn
  obtain ⟨z0, z1, z2, z3, z4, z5⟩ := unhide HCL W2 (unhide HB0)
  have HZ0 := hide z0
  rw [hk] at hW2 d0 z2 HCL
  have hlt : (n : Int) < l.length := by omega
  have hn0 : (0 : Int) ≤ (n : Int) := by omega
  obtain ⟨nk, hnk⟩ : ∃ nk, (nd l n).kids.length = nk := ⟨_, rfl⟩
  have HNK := hide hnk
  obtain ⟨x2, hx2⟩ : ∃ x, kidN l n 2 = x := ⟨_, rfl⟩
  have HKD2 : Hid (∀ w, Below W2.heap.size W2 w → Calls Tryz.prog 111 #[.agg #[.slice (some ⟨bb, o, none⟩) l.length cap], .int .i64 (n : Int), .int .i64 2] w fun e w' => ∃ a c, e = .returned (ndV x2 a c) ∧ KidsAt w' M a x2.kids ∧ x2.kids.length ≤ c ∧ c ≤ maxLen ∧ Below W2.heap.size W2 w') := fun w hw => by rw [← hx2]; exact (unhide HREF).kid w hw 2 (by decide)
  have HX2 := hide hx2
  clear hx2
  rw [hnk] at hW2 d3 z3 HCL hkl hkc
  clear hN hk hnk z0
  have hBB := unhide HB0
  by_cases h1 : nk = 3
  case pos =>
    have g1_h1 : (nk : Int) = 3 := by omega
    have H1 := hide h1
    clear h1
    have HC2 : Hid (∀ w, Below W2.heap.size W2 w → Calls Tryz.prog 108 #[.agg #[.slice (some ⟨bb, o, none⟩) l.length cap], .int .i64 (n : Int), .int .i64 0, .int .i64 67] w fun e w' => e = .returned (.bool (listR l n 0 67)) ∧ Below W2.heap.size W2 w') := fun w hw => (unhide HREF).list w hw 0 67 (by decide)
    cases h2 : listR l n 0 67 with
    | true =>
      have H2 := hide h2
      rw [h2] at HC2
      clear h2
      have HC3 : Hid (∀ w, Below W2.heap.size W2 w → Calls Tryz.prog 108 #[.agg #[.slice (some ⟨bb, o, none⟩) l.length cap], .int .i64 (n : Int), .int .i64 1, .int .i64 1003] w fun e w' => e = .returned (.bool (listR l n 1 1003)) ∧ Below W2.heap.size W2 w') := fun w hw => (unhide HREF).list w hw 1 1003 (by decide)
      cases h3 : listR l n 1 1003 with
      | true =>
        have H3 := hide h3
        rw [h3] at HC3
        clear h3
        cases h5 : (x2.kind == 63) with
        | true =>
          have H5 := hide h5
          have HF : Hid (kidR 22 l n = true) := by show kidR 22 l n = _; simp [kidR, funcR, unhide HNK, unhide HX2, unhide H1, unhide H2, unhide H3, unhide H5]
          go_enter Tryz.func78, Tryz.ntmps78
          go_wp2_with (first | (go_at_call_of 108 (67 : Int); refine (unhide HC2 _ (by assumption)).mono ?_; rintro e w3 ⟨rfl, hB3⟩; obtain ⟨y00, y01, y02, y03, y04, y05⟩ := unhide HCL w3 hB3) | (go_at_call_of 108 (1003 : Int); refine (unhide HC3 _ (by assumption)).mono ?_; rintro e w4 ⟨rfl, hB4⟩; obtain ⟨y10, y11, y12, y13, y14, y15⟩ := unhide HCL w4 hB4) | (go_at_call_of 111 (2 : Int); refine (unhide HKD2 _ (by assumption)).mono ?_; rintro e w5 ⟨a25, c25, he5, _, _, _, hB5⟩; simp only [ndV] at he5; subst he5; obtain ⟨y20, y21, y22, y23, y24, y25⟩ := unhide HCL w5 hB5))
          go_ret
          exact ⟨ret_b (unhide HF).symm, (unhide HCL w5 hB5).1⟩
        | false =>
          have H5 := hide h5
          have HC7 : Hid (∀ w, Below W2.heap.size W2 w → Calls Tryz.prog 28 #[.int .i64 x2.kind] w fun e w' => e = .returned (.bool (isE x2.kind)) ∧ Below W2.heap.size W2 w') := fun w hw => (rExpr_any x2.kind w).mono fun e w' h => ⟨h.1, by rw [h.2]; exact hw⟩
          cases h7 : isE x2.kind with
          | true =>
            have H7 := hide h7
            rw [h7] at HC7
            clear h7
            have HF : Hid (kidR 22 l n = true) := by show kidR 22 l n = _; simp [kidR, funcR, unhide HNK, unhide HX2, unhide H1, unhide H2, unhide H3, unhide H5, unhide H7]
            go_enter Tryz.func78, Tryz.ntmps78
            go_wp2_with (first | (go_at_call_of 108 (67 : Int); refine (unhide HC2 _ (by assumption)).mono ?_; rintro e w3 ⟨rfl, hB3⟩; obtain ⟨y00, y01, y02, y03, y04, y05⟩ := unhide HCL w3 hB3) | (go_at_call_of 108 (1003 : Int); refine (unhide HC3 _ (by assumption)).mono ?_; rintro e w4 ⟨rfl, hB4⟩; obtain ⟨y10, y11, y12, y13, y14, y15⟩ := unhide HCL w4 hB4) | (go_at_call_of 111 (2 : Int); refine (unhide HKD2 _ (by assumption)).mono ?_; rintro e w5 ⟨a25, c25, he5, _, _, _, hB5⟩; simp only [ndV] at he5; subst he5; obtain ⟨y20, y21, y22, y23, y24, y25⟩ := unhide HCL w5 hB5) | (go_at_call 28; refine (unhide HC7 _ (by assumption)).mono ?_; rintro e w7 ⟨rfl, hB7⟩; obtain ⟨y40, y41, y42, y43, y44, y45⟩ := unhide HCL w7 hB7))
            go_ret
            exact ⟨ret_b (unhide HF).symm, (unhide HCL w7 hB7).1⟩
          | false =>
            have H7 := hide h7
            rw [h7] at HC7
            clear h7
            have HF : Hid (kidR 22 l n = false) := by show kidR 22 l n = _; simp [kidR, funcR, unhide HNK, unhide HX2, unhide H1, unhide H2, unhide H3, unhide H5, unhide H7]
            go_enter Tryz.func78, Tryz.ntmps78
            go_wp2_with (first | (go_at_call_of 108 (67 : Int); refine (unhide HC2 _ (by assumption)).mono ?_; rintro e w3 ⟨rfl, hB3⟩; obtain ⟨y00, y01, y02, y03, y04, y05⟩ := unhide HCL w3 hB3) | (go_at_call_of 108 (1003 : Int); refine (unhide HC3 _ (by assumption)).mono ?_; rintro e w4 ⟨rfl, hB4⟩; obtain ⟨y10, y11, y12, y13, y14, y15⟩ := unhide HCL w4 hB4) | (go_at_call_of 111 (2 : Int); refine (unhide HKD2 _ (by assumption)).mono ?_; rintro e w5 ⟨a25, c25, he5, _, _, _, hB5⟩; simp only [ndV] at he5; subst he5; obtain ⟨y20, y21, y22, y23, y24, y25⟩ := unhide HCL w5 hB5) | (go_at_call 28; refine (unhide HC7 _ (by assumption)).mono ?_; rintro e w7 ⟨rfl, hB7⟩; obtain ⟨y40, y41, y42, y43, y44, y45⟩ := unhide HCL w7 hB7))
            go_ret
            exact ⟨ret_b (unhide HF).symm, (unhide HCL w7 hB7).1⟩
      | false =>
        have H3 := hide h3
        rw [h3] at HC3
        clear h3
        have HF : Hid (kidR 22 l n = false) := by show kidR 22 l n = _; simp [kidR, funcR, unhide HNK, unhide HX2, unhide H1, unhide H2, unhide H3]
        go_enter Tryz.func78, Tryz.ntmps78
        go_wp2_with (first | (go_at_call_of 108 (67 : Int); refine (unhide HC2 _ (by assumption)).mono ?_; rintro e w3 ⟨rfl, hB3⟩; obtain ⟨y00, y01, y02, y03, y04, y05⟩ := unhide HCL w3 hB3) | (go_at_call_of 108 (1003 : Int); refine (unhide HC3 _ (by assumption)).mono ?_; rintro e w4 ⟨rfl, hB4⟩; obtain ⟨y10, y11, y12, y13, y14, y15⟩ := unhide HCL w4 hB4))
        go_ret
        exact ⟨ret_b (unhide HF).symm, (unhide HCL w4 hB4).1⟩
    | false =>
      have H2 := hide h2
      rw [h2] at HC2
      clear h2
      have HF : Hid (kidR 22 l n = false) := by show kidR 22 l n = _; simp [kidR, funcR, unhide HNK, unhide HX2, unhide H1, unhide H2]
      go_enter Tryz.func78, Tryz.ntmps78
      go_wp2_with (first | (go_at_call_of 108 (67 : Int); refine (unhide HC2 _ (by assumption)).mono ?_; rintro e w3 ⟨rfl, hB3⟩; obtain ⟨y00, y01, y02, y03, y04, y05⟩ := unhide HCL w3 hB3))
      go_ret
      exact ⟨ret_b (unhide HF).symm, (unhide HCL w3 hB3).1⟩
  case neg =>
    have g7_h1 : ¬ (nk : Int) = 3 := by omega
    have gb7_h1 : ((nk : Int) == 3) = false := by simpa using g7_h1
    have H1 := hide h1
    clear h1
    have HF : Hid (kidR 22 l n = false) := by show kidR 22 l n = _; simp [kidR, funcR, unhide HNK, unhide HX2, unhide H1]
    go_enter Tryz.func78, Tryz.ntmps78
    go_wp2
    go_ret
    exact ⟨ret_b (unhide HF).symm, unhide HZ0⟩
set_option maxRecDepth 100000 in
set_option maxHeartbeats 2000000 in
theorem arm_26 (W : World) (M : Nat) (v : Value) (l : List Nd) (n : Nat) (hN : Nodes W M v l) (hM : M ≤ W.heap.size) (hn : n < l.length) (hk : (nd l n).kind = 26) :
    Calls Tryz.prog 78 #[.agg #[v], .int .i64 (n : Int)] W fun e w' => e = .returned (.bool (kidR 26 l n)) ∧ Below W.heap.size W w' := by
  obtain ⟨bb, o, cap, ka, kc, W1, W2, rfl, hW1, hW2, hc1, hc2, hl1, hkl, HKA, hkc, hkm, ⟨c0, d0, d1, d2, d3, d4, s1, s2⟩, HCL, HREF, HB0⟩ := arm_start W M v l n hN hM hn
  obtain ⟨z0, z1, z2, z3, z4, z5⟩ := unhide HCL W2 (unhide HB0)
  have HZ0 := hide z0
  rw [hk] at hW2 d0 z2 HCL
  have hlt : (n : Int) < l.length := by omega
  have hn0 : (0 : Int) ≤ (n : Int) := by omega
  obtain ⟨nk, hnk⟩ : ∃ nk, (nd l n).kids.length = nk := ⟨_, rfl⟩
  have HNK := hide hnk
  obtain ⟨x0, hx0⟩ : ∃ x, kidN l n 0 = x := ⟨_, rfl⟩
  have HKD0 : Hid (∀ w, Below W2.heap.size W2 w → Calls Tryz.prog 111 #[.agg #[.slice (some ⟨bb, o, none⟩) l.length cap], .int .i64 (n : Int), .int .i64 0] w fun e w' => ∃ a c, e = .returned (ndV x0 a c) ∧ KidsAt w' M a x0.kids ∧ x0.kids.length ≤ c ∧ c ≤ maxLen ∧ Below W2.heap.size W2 w') := fun w hw => by rw [← hx0]; exact (unhide HREF).kid w hw 0 (by decide)
  have HX0 := hide hx0
  clear hx0
  rw [hnk] at hW2 d3 z3 HCL hkl hkc
  clear hN hk hnk z0
  have hBB := unhide HB0
  have HC2 : Hid (∀ w, Below W2.heap.size W2 w → Calls Tryz.prog 109 #[.agg #[.slice (some ⟨bb, o, none⟩) l.length cap], .int .i64 (n : Int), .slice (some ⟨w.heap.size, 0, none⟩) 2 2] (w.alloc (.cells #[.int .i64 1000, .int .i64 1000] 3)) fun e w' => e = .returned (.bool (rowR l n [1000, 1000])) ∧ Below W2.heap.size W2 w') := fun w hw => (unhide HREF).row w hw [1000, 1000] (by decide) (by decide)
  cases h2 : rowR l n [1000, 1000] with
  | true =>
    have H2 := hide h2
    rw [h2] at HC2
    clear h2
    cases h3 : (x0.kind == 17) with
    | true =>
      have H3 := hide h3
      have HF : Hid (kidR 26 l n = true) := by show kidR 26 l n = _; simp [kidR, funcR, unhide HNK, unhide HX0, unhide H2, unhide H3]
      go_enter Tryz.func78, Tryz.ntmps78
      go_wp2_with (first | (go_at_call_of 111 (0 : Int); refine (unhide HKD0 _ (by assumption)).mono ?_; rintro e w3 ⟨a03, c03, he3, _, _, _, hB3⟩; simp only [ndV] at he3; subst he3; obtain ⟨y00, y01, y02, y03, y04, y05⟩ := unhide HCL w3 hB3) | (go_at_call 109; refine (unhide HC2 w3 hB3).mono ?_; rintro e w4 ⟨rfl, hB4⟩; obtain ⟨y10, y11, y12, y13, y14, y15⟩ := unhide HCL w4 hB4))
      go_ret
      exact ⟨ret_b (unhide HF).symm, (unhide HCL w4 hB4).1⟩
    | false =>
      have H3 := hide h3
      cases h4 : (x0.kind == 29) with
      | true =>
        have H4 := hide h4
        have HF : Hid (kidR 26 l n = true) := by show kidR 26 l n = _; simp [kidR, funcR, unhide HNK, unhide HX0, unhide H2, unhide H3, unhide H4]
        go_enter Tryz.func78, Tryz.ntmps78
        go_wp2_with (first | (go_at_call_of 111 (0 : Int); refine (unhide HKD0 _ (by assumption)).mono ?_; rintro e w3 ⟨a03, c03, he3, _, _, _, hB3⟩; simp only [ndV] at he3; subst he3; obtain ⟨y00, y01, y02, y03, y04, y05⟩ := unhide HCL w3 hB3) | (go_at_call 109; refine (unhide HC2 w3 hB3).mono ?_; rintro e w4 ⟨rfl, hB4⟩; obtain ⟨y10, y11, y12, y13, y14, y15⟩ := unhide HCL w4 hB4))
        go_ret
        exact ⟨ret_b (unhide HF).symm, (unhide HCL w4 hB4).1⟩
      | false =>
        have H4 := hide h4
        cases h5 : (x0.kind == 30) with
        | true =>
          have H5 := hide h5
          have HF : Hid (kidR 26 l n = true) := by show kidR 26 l n = _; simp [kidR, funcR, unhide HNK, unhide HX0, unhide H2, unhide H3, unhide H4, unhide H5]
          go_enter Tryz.func78, Tryz.ntmps78
          go_wp2_with (first | (go_at_call_of 111 (0 : Int); refine (unhide HKD0 _ (by assumption)).mono ?_; rintro e w3 ⟨a03, c03, he3, _, _, _, hB3⟩; simp only [ndV] at he3; subst he3; obtain ⟨y00, y01, y02, y03, y04, y05⟩ := unhide HCL w3 hB3) | (go_at_call 109; refine (unhide HC2 w3 hB3).mono ?_; rintro e w4 ⟨rfl, hB4⟩; obtain ⟨y10, y11, y12, y13, y14, y15⟩ := unhide HCL w4 hB4))
          go_ret
          exact ⟨ret_b (unhide HF).symm, (unhide HCL w4 hB4).1⟩
        | false =>
          have H5 := hide h5
          have HF : Hid (kidR 26 l n = false) := by show kidR 26 l n = _; simp [kidR, funcR, unhide HNK, unhide HX0, unhide H2, unhide H3, unhide H4, unhide H5]
          go_enter Tryz.func78, Tryz.ntmps78
          go_wp2_with (first | (go_at_call_of 111 (0 : Int); refine (unhide HKD0 _ (by assumption)).mono ?_; rintro e w3 ⟨a03, c03, he3, _, _, _, hB3⟩; simp only [ndV] at he3; subst he3; obtain ⟨y00, y01, y02, y03, y04, y05⟩ := unhide HCL w3 hB3) | (go_at_call 109; refine (unhide HC2 w3 hB3).mono ?_; rintro e w4 ⟨rfl, hB4⟩; obtain ⟨y10, y11, y12, y13, y14, y15⟩ := unhide HCL w4 hB4))
          go_ret
          exact ⟨ret_b (unhide HF).symm, (unhide HCL w4 hB4).1⟩
  | false =>
    have H2 := hide h2
    rw [h2] at HC2
    clear h2
    have HF : Hid (kidR 26 l n = false) := by show kidR 26 l n = _; simp [kidR, funcR, unhide HNK, unhide HX0, unhide H2]
    go_enter Tryz.func78, Tryz.ntmps78
    go_wp2_with (first | (go_at_call_of 111 (0 : Int); refine (unhide HKD0 _ (by assumption)).mono ?_; rintro e w3 ⟨a03, c03, he3, _, _, _, hB3⟩; simp only [ndV] at he3; subst he3; obtain ⟨y00, y01, y02, y03, y04, y05⟩ := unhide HCL w3 hB3) | (go_at_call 109; refine (unhide HC2 w3 hB3).mono ?_; rintro e w4 ⟨rfl, hB4⟩; obtain ⟨y10, y11, y12, y13, y14, y15⟩ := unhide HCL w4 hB4))
    go_ret
    exact ⟨ret_b (unhide HF).symm, (unhide HCL w4 hB4).1⟩
end Go.Proofs.YtnnpkomedpjlcaaGreatDoor

/- The reference's kids of a Template and of a New. -/
namespace Go.Proofs.YtnnpkomedpjlcaaGreatDoor
set_option linter.unusedSimpArgs false
set_option linter.unusedVariables false
open Go.RowKit

theorem tmplU_le {l : List Nd} {n i : Nat} (h : tmplU l n i = false) : ∀ {j}, i ≤ j → tmplU l n j = false
  | 0, hj => by obtain rfl : i = 0 := by omega
                exact h
  | j + 1, hj => by
    by_cases e : i = j + 1
    · subst e; exact h
    · show (tmplU l n j && _) = false
      rw [tmplU_le h (by omega)]; rfl
set_option maxRecDepth 100000 in
set_option maxHeartbeats 2000000 in
theorem arm_12 (W : World) (M : Nat) (v : Value) (l : List Nd) (n : Nat) (hN : Nodes W M v l) (hM : M ≤ W.heap.size) (hn : n < l.length) (hk : (nd l n).kind = 12) :
    Calls Tryz.prog 78 #[.agg #[v], .int .i64 (n : Int)] W fun e w' => e = .returned (.bool (kidR 12 l n)) ∧ Below W.heap.size W w' := by
  obtain ⟨bb, o, cap, ka, kc, W1, W2, rfl, hW1, hW2, hc1, hc2, hl1, hkl, HKA, hkc, hkm, ⟨c0, d0, d1, d2, d3, d4, s1, s2⟩, HCL, HREF, HB0⟩ := arm_start W M v l n hN hM hn
  obtain ⟨z0, z1, z2, z3, z4, z5⟩ := unhide HCL W2 (unhide HB0)
  have HZ0 := hide z0
  rw [hk] at hW2 d0 z2 HCL
  have hlt : (n : Int) < l.length := by omega
  have hn0 : (0 : Int) ≤ (n : Int) := by omega
  obtain ⟨nk, hnk⟩ : ∃ nk, (nd l n).kids.length = nk := ⟨_, rfl⟩
  have HNK := hide hnk
  rw [hnk] at hW2 d3 z3 HCL hkl hkc
  clear hN hk hnk z0
  have hBB := unhide HB0
  have HR : Hid (kidR 12 l n = (tmplU l n nk && nk % 2 == 1)) := by show kidR 12 l n = _; rw [← unhide HNK]; rfl
  go_enter Tryz.func78, Tryz.ntmps78
  go_wp2
  go_loopw [6] (fun t wr => ∃ i : Nat, i ≤ nk ∧ t = .int .i64 (i : Int) ∧ tmplU l n i = true ∧ Below W2.heap.size W2 wr) (fun t _ => nk - (intOf t).toNat)
  case atStart => exact ⟨0, Nat.zero_le _, rfl, rfl, hBB⟩
  case round =>
    obtain ⟨i, hil, rfl, hu, hBr⟩ := hrel
    obtain ⟨r1, r2, r3, r4, r5, r6⟩ := unhide HCL wr hBr
    have HU := hide hu
    have hsz := hBr.size
    clear hu
    by_cases hlt : i < nk
    case neg =>
      have hlt2 : ¬ (i : Int) < nk := by omega
      obtain rfl : i = nk := by omega
      by_cases hp : i % 2 = 1
      · have hp2 : (i : Int).tmod 2 = 1 := by rw [Int.tmod_eq_emod_of_nonneg (by omega)]; omega
        have HF : Hid (kidR 12 l n = true) := by show kidR 12 l n = true; rw [unhide HR, unhide HU, hp]; rfl
        go_wp2
        go_ret
        exact ⟨ret_b (unhide HF).symm, r1⟩
      · have hp2 : (i : Int).tmod 2 = 0 := by rw [Int.tmod_eq_emod_of_nonneg (by omega)]; omega
        have HF : Hid (kidR 12 l n = false) := by show kidR 12 l n = false; rw [unhide HR, unhide HU, show i % 2 = 0 by omega]; rfl
        go_wp2
        go_ret
        exact ⟨ret_b (unhide HF).symm, r1⟩
    have hlt2 : (i : Int) < nk := by omega
    obtain ⟨x, hx⟩ : ∃ x, kidN l n i = x := ⟨_, rfl⟩
    have HC := hide ((unhide HREF).kid wr hBr i (by omega))
    rw [hx] at HC
    have HIS : Hid (∀ w, Below W2.heap.size W2 w → Calls Tryz.prog 28 #[.int .i64 x.kind] w fun e w' => e = .returned (.bool (isE x.kind)) ∧ Below W2.heap.size W2 w') := fun w hw => (rExpr_any x.kind w).mono fun e w' h => ⟨h.1, by rw [h.2]; exact hw⟩
    have HS : Hid (tmplU l n (i + 1) = (if i % 2 = 0 then x.kind == 11 else isE x.kind)) := by
      show (tmplU l n i && (if i % 2 = 0 then (kidN l n i).kind == 11 else isE (kidN l n i).kind)) = _
      rw [unhide HU, hx]; rfl
    clear hx
    by_cases hp : i % 2 = 0
    · have hp2 : (i : Int).tmod 2 = 0 := by rw [Int.tmod_eq_emod_of_nonneg (by omega)]; omega
      cases hb : (x.kind == 11) with
      | true =>
        have hb2 : (x.kind != 11) = false := by simp [bne, hb]
        have HT : Hid (tmplU l n (i + 1) = true) := by show tmplU l n (i + 1) = true; rw [unhide HS, if_pos hp, hb]
        go_wp2_with (go_at_call 111; refine (unhide HC).mono ?_; rintro e w3 ⟨a3, c3, he, _, _, _, hB3⟩; simp only [ndV] at he; subst he; have hz3 := hB3.size)
        exact ⟨⟨i + 1, by omega, by go_num, unhide HT, hB3.alloc (by omega) _⟩, by simp [intOf]; omega⟩
      | false =>
        have hb2 : (x.kind != 11) = true := by simp [bne, hb]
        have HT : Hid (kidR 12 l n = false) := by show kidR 12 l n = false; rw [unhide HR, tmplU_le (i := i + 1) (by rw [unhide HS, if_pos hp, hb]) (by omega)]; rfl
        go_wp2_with (go_at_call 111; refine (unhide HC).mono ?_; rintro e w3 ⟨a3, c3, he, _, _, _, hB3⟩; simp only [ndV] at he; subst he; have hz3 := hB3.size)
        go_ret
        exact ⟨ret_b (unhide HT).symm, (unhide HCL _ (hB3.alloc (by omega) _)).1⟩
    · have hp2 : (i : Int).tmod 2 = 1 := by rw [Int.tmod_eq_emod_of_nonneg (by omega)]; omega
      cases hb : isE x.kind with
      | true =>
        rw [hb] at HIS
        have HT : Hid (tmplU l n (i + 1) = true) := by show tmplU l n (i + 1) = true; rw [unhide HS, if_neg hp, hb]
        clear hb
        go_wp2_with (first | (go_at_call 111; refine (unhide HC).mono ?_; rintro e w3 ⟨a3, c3, he, _, _, _, hB3⟩; simp only [ndV] at he; subst he; have hz3 := hB3.size; have hB4 : Below W2.heap.size W2 (w3.alloc (.cells #[.int .i64 x.kind, .string x.text, .int .i64 x.num, .slice a3 x.kids.length c3, .int .i64 x.at'] 41)) := hB3.alloc (by omega) _) | (go_at_call 28; refine (unhide HIS _ hB4).mono ?_; rintro e w4 ⟨rfl, hB5⟩))
        exact ⟨⟨i + 1, by omega, by go_num, unhide HT, hB5⟩, by simp [intOf]; omega⟩
      | false =>
        rw [hb] at HIS
        have HT : Hid (kidR 12 l n = false) := by show kidR 12 l n = false; rw [unhide HR, tmplU_le (i := i + 1) (by rw [unhide HS, if_neg hp, hb]) (by omega)]; rfl
        clear hb
        go_wp2_with (first | (go_at_call 111; refine (unhide HC).mono ?_; rintro e w3 ⟨a3, c3, he, _, _, _, hB3⟩; simp only [ndV] at he; subst he; have hz3 := hB3.size; have hB4 : Below W2.heap.size W2 (w3.alloc (.cells #[.int .i64 x.kind, .string x.text, .int .i64 x.num, .slice a3 x.kids.length c3, .int .i64 x.at'] 41)) := hB3.alloc (by omega) _) | (go_at_call 28; refine (unhide HIS _ hB4).mono ?_; rintro e w4 ⟨rfl, hB5⟩))
        go_ret
        exact ⟨ret_b (unhide HT).symm, (unhide HCL _ hB5).1⟩
end Go.Proofs.YtnnpkomedpjlcaaGreatDoor

/- The reference's kids of a New. -/
namespace Go.Proofs.YtnnpkomedpjlcaaGreatDoor
set_option linter.unusedSimpArgs false
set_option linter.unusedVariables false
open Go.RowKit

set_option maxRecDepth 100000 in
set_option maxHeartbeats 2000000 in
theorem arm_28 (W : World) (M : Nat) (v : Value) (l : List Nd) (n : Nat) (hN : Nodes W M v l) (hM : M ≤ W.heap.size) (hn : n < l.length) (hk : (nd l n).kind = 28) :
    Calls Tryz.prog 78 #[.agg #[v], .int .i64 (n : Int)] W fun e w' => e = .returned (.bool (kidR 28 l n)) ∧ Below W.heap.size W w' := by
  have HNN := hide hN
  obtain ⟨bb, o, cap, ka, kc, W1, W2, rfl, hW1, hW2, hc1, hc2, hl1, hkl, HKA, hkc, hkm, ⟨c0, d0, d1, d2, d3, d4, s1, s2⟩, HCL, HREF, HB0⟩ := arm_start W M v l n hN hM hn
  obtain ⟨z0, z1, z2, z3, z4, z5⟩ := unhide HCL W2 (unhide HB0)
  have HZ0 := hide z0
  rw [hk] at hW2 d0 z2 HCL
  have hlt : (n : Int) < l.length := by omega
  have hn0 : (0 : Int) ≤ (n : Int) := by omega
  obtain ⟨nk, hnk⟩ : ∃ nk, (nd l n).kids.length = nk := ⟨_, rfl⟩
  have HNK := hide hnk
  rw [hnk] at hW2 d3 z3 HCL hkl hkc
  clear hN hk hnk z0
  have hBB := unhide HB0
  have HR : Hid (kidR 28 l n = (rowR l n [1000, 2, 2] && (namedR l (l.length + 1) ((nd l n).kids.getD 0 0) && (listR l n 1 1001 && listR l n 2 1000)))) := rfl
  obtain ⟨k0, hk0⟩ : ∃ k0, (nd l n).kids.getD 0 0 = k0 := ⟨_, rfl⟩
  rw [hk0] at HR
  obtain ⟨W3, hW3⟩ : ∃ W3, W2.drew.alloc (.cells #[.int .i64 1000, .int .i64 2, .int .i64 2] 3) = W3 := ⟨_, rfl⟩
  have hz3 : W3.heap.size = W2.heap.size + 1 := by rw [← hW3, World.size_alloc]; rfl
  have hB3 : Below W2.heap.size W2 W3 := by rw [← hW3]; exact hBB.drew.alloc (Nat.le_refl _) _
  have HCS : Hid (∀ w, Below W3.heap.size W3 w → Below W2.heap.size W2 w) := fun w hw => hB3.trans (hw.mono (by omega))
  have HCL3 : Hid (∀ w, Below W3.heap.size W3 w → _) := fun w hw => unhide HCL w (unhide HCS w hw)
  have HREF3 : Hid (Ref W3.heap.size W3 M (.slice (some ⟨bb, o, none⟩) l.length cap) l n) := ref_of (unhide HNN) hM hn (unhide HCL W3 hB3).1 (by omega) (Nat.le_refl _)
  have HKN : KidsAt W3 W3.heap.size (some ⟨W2.heap.size, 0, none⟩) [1000, 2, 2] := by rw [← hW3]; exact kids_new W2.drew [1000, 2, 2] 3
  have HC1 : Hid (∀ w, Below W3.heap.size W3 w → Calls Tryz.prog 109 #[.agg #[.slice (some ⟨bb, o, none⟩) l.length cap], .int .i64 (n : Int), .slice (some ⟨W2.heap.size, 0, none⟩) 3 3] w fun e w' => e = .returned (.bool (rowR l n [1000, 2, 2])) ∧ Below W3.heap.size W3 w') := fun w hw =>
    (row_any w M _ l n [1000, 2, 2] (some ⟨W2.heap.size, 0, none⟩) 3 ((unhide HNN).keep (unhide HCL3 w hw).1 hM) (Nat.le_trans hM (unhide HCL3 w hw).1.size) hn ((HKN.keep hw (Nat.le_refl _)).mono hw.size) (by decide) (by decide) (by decide) (by decide)).mono fun e w' h => ⟨h.1, hw.trans (h.2.mono hw.size)⟩
  have HC2 : Hid (∀ w, Below W3.heap.size W3 w → Calls Tryz.prog 112 #[.agg #[.slice (some ⟨bb, o, none⟩) l.length cap], .int .i64 k0] w fun e w' => e = .returned (.bool (namedR l (l.length + 1) k0)) ∧ Below W3.heap.size W3 w') := fun w hw => (unhide HREF3).named w hw k0
  have HC3 : Hid (∀ w, Below W3.heap.size W3 w → Calls Tryz.prog 108 #[.agg #[.slice (some ⟨bb, o, none⟩) l.length cap], .int .i64 (n : Int), .int .i64 1, .int .i64 1001] w fun e w' => e = .returned (.bool (listR l n 1 1001)) ∧ Below W3.heap.size W3 w') := fun w hw => (unhide HREF3).list w hw 1 1001 (by decide)
  have HC4 : Hid (∀ w, Below W3.heap.size W3 w → Calls Tryz.prog 108 #[.agg #[.slice (some ⟨bb, o, none⟩) l.length cap], .int .i64 (n : Int), .int .i64 2, .int .i64 1000] w fun e w' => e = .returned (.bool (listR l n 2 1000)) ∧ Below W3.heap.size W3 w') := fun w hw => (unhide HREF3).list w hw 2 1000 (by decide)
  have HW3 := hide hW3
  clear hW3 HKN hz3
  cases r1 : rowR l n [1000, 2, 2] with
  | false =>
    have HF : Hid (kidR 28 l n = false) := by show kidR 28 l n = false; rw [unhide HR, r1]; rfl
    rw [r1] at HC1
    clear r1 hk0
    go_enter Tryz.func78, Tryz.ntmps78
    go_wp2
    refine region_D (S := fun w' => Below W2.heap.size W2 w') (C := fun w' => Below W3.heap.size W3 w') (w3 := W3) (v0 := .agg #[.slice (some ⟨bb, o, none⟩) l.length cap]) (v1 := .int .i64 (n : Int)) (v2 := .slice (some ⟨W2.heap.size, 0, none⟩) 3 3) (by kernel_rfl) (by kernel_rfl) (by kernel_rfl) (by kernel_rfl) (by kernel_rfl) (by kernel_rfl) (by kernel_rfl) (by kernel_rfl) (.inl ⟨rfl, fun w hw => ?_⟩) (.inl ⟨rfl, fun w hw => ?_⟩) rfl ?_ hBB.drew (Below.refl _ _) (fun w hw => unhide HCS w hw) ?_
    · obtain ⟨f0, f1, f2, f3, f4, f5⟩ := unhide HCL w hw
      go_simp
    · go_simp
    · rw [← unhide HW3]
      go_simp
      first | done | rfl
    simp only [Act.put, List.setIfInBounds_toArray, List.set_cons_zero, List.set_cons_succ]
    repeat (first
      | go_big_quiet_skip
      | (go_big_quiet_want
         go_big_quiet_op
         first
           | go_big_quiet_on
           | (apply Exists.intro
              refine ⟨fun w hw => ?_, ?_⟩
              first
                | rfl
                | (go_at_call 109; exact unhide HC1 w hw)
                | (obtain ⟨f0, f1, f2, f3, f4, f5⟩ := unhide HCL3 w hw
                   go_simp
                   first | done | rfl | exact ⟨rfl, rfl⟩)
              go_big_quiet_on)))
    refine wpQuiet_nil ?_
    intro w9 hw9
    have HB9 := hide (unhide HCL3 w9 hw9).1
    go_wp2
    go_ret
    exact ⟨ret_b (unhide HF).symm, unhide HB9⟩
  | true =>
    have hnk3 : nk = 3 := by
      have := r1
      simp only [rowR, Bool.and_eq_true, unhide HNK] at this
      simpa using this.1
    rw [r1] at HC1
    obtain ⟨kb, ko, rfl, hkb, HKC⟩ : ∃ kb ko, ka = some ⟨kb, ko, none⟩ ∧ kb < M ∧ Hid (∀ w, Below W3.heap.size W3 w → w.cell? ⟨kb, ko, none⟩ = some (.int .i64 k0)) := by
      rcases HKA with h | ⟨kb, ko, h1, h2, h3⟩
      · have := unhide HNK; rw [h] at this; simp at this; omega
      · refine ⟨kb, ko, h1, h2, fun w hw => ?_⟩
        rw [(unhide HCL3 w hw).1.cell (p := ⟨kb, ko, none⟩) (show kb < W.heap.size by omega), ← hk0]
        exact h3 0 (by rw [unhide HNK]; omega)
    subst hnk3
    clear hk0
    cases r2 : namedR l (l.length + 1) k0 with
    | false =>
      have HF : Hid (kidR 28 l n = false) := by show kidR 28 l n = false; rw [unhide HR, r1, r2]; rfl
      rw [r2] at HC2
      clear r1 r2
      go_enter Tryz.func78, Tryz.ntmps78
      go_wp2
      refine region_D (S := fun w' => Below W2.heap.size W2 w') (C := fun w' => Below W3.heap.size W3 w') (w3 := W3) (v0 := .agg #[.slice (some ⟨bb, o, none⟩) l.length cap]) (v1 := .int .i64 (n : Int)) (v2 := .slice (some ⟨W2.heap.size, 0, none⟩) 3 3) (by kernel_rfl) (by kernel_rfl) (by kernel_rfl) (by kernel_rfl) (by kernel_rfl) (by kernel_rfl) (by kernel_rfl) (by kernel_rfl) (.inl ⟨rfl, fun w hw => ?_⟩) (.inl ⟨rfl, fun w hw => ?_⟩) rfl ?_ hBB.drew (Below.refl _ _) (fun w hw => unhide HCS w hw) ?_
      · obtain ⟨f0, f1, f2, f3, f4, f5⟩ := unhide HCL w hw
        go_simp
      · go_simp
      · rw [← unhide HW3]
        go_simp
        first | done | rfl
      simp only [Act.put, List.setIfInBounds_toArray, List.set_cons_zero, List.set_cons_succ]
      repeat (first
        | go_big_quiet_skip
        | (go_big_quiet_want
           go_big_quiet_op
           first
             | go_big_quiet_on
             | (apply Exists.intro
                refine ⟨fun w hw => ?_, ?_⟩
                first
                  | rfl
                  | (go_at_call 109; exact unhide HC1 w hw)
                  | (go_at_call 112; exact unhide HC2 w hw)
                  | (obtain ⟨f0, f1, f2, f3, f4, f5⟩ := unhide HCL3 w hw
                     have f6 := unhide HKC w hw
                     go_simp
                     first | done | rfl | exact ⟨rfl, rfl⟩)
                go_big_quiet_on)))
      refine wpQuiet_nil ?_
      intro w9 hw9
      have HB9 := hide (unhide HCL3 w9 hw9).1
      go_wp2
      go_ret
      exact ⟨ret_b (unhide HF).symm, unhide HB9⟩
    | true =>
      rw [r2] at HC2
      cases r3 : listR l n 1 1001 with
      | false =>
        have HF : Hid (kidR 28 l n = false) := by show kidR 28 l n = false; rw [unhide HR, r1, r2, r3]; rfl
        rw [r3] at HC3
        clear r1 r2 r3
        go_enter Tryz.func78, Tryz.ntmps78
        go_wp2
        refine region_D (S := fun w' => Below W2.heap.size W2 w') (C := fun w' => Below W3.heap.size W3 w') (w3 := W3) (v0 := .agg #[.slice (some ⟨bb, o, none⟩) l.length cap]) (v1 := .int .i64 (n : Int)) (v2 := .slice (some ⟨W2.heap.size, 0, none⟩) 3 3) (by kernel_rfl) (by kernel_rfl) (by kernel_rfl) (by kernel_rfl) (by kernel_rfl) (by kernel_rfl) (by kernel_rfl) (by kernel_rfl) (.inl ⟨rfl, fun w hw => ?_⟩) (.inl ⟨rfl, fun w hw => ?_⟩) rfl ?_ hBB.drew (Below.refl _ _) (fun w hw => unhide HCS w hw) ?_
        · obtain ⟨f0, f1, f2, f3, f4, f5⟩ := unhide HCL w hw
          go_simp
        · go_simp
        · rw [← unhide HW3]
          go_simp
          first | done | rfl
        simp only [Act.put, List.setIfInBounds_toArray, List.set_cons_zero, List.set_cons_succ]
        repeat (first
          | go_big_quiet_skip
          | (go_big_quiet_want
             go_big_quiet_op
             first
               | go_big_quiet_on
               | (apply Exists.intro
                  refine ⟨fun w hw => ?_, ?_⟩
                  first
                    | rfl
                    | (go_at_call 109; exact unhide HC1 w hw)
                    | (go_at_call 112; exact unhide HC2 w hw)
                    | (go_at_call_of 108 (1001 : Int); exact unhide HC3 w hw)
                    | (obtain ⟨f0, f1, f2, f3, f4, f5⟩ := unhide HCL3 w hw
                       have f6 := unhide HKC w hw
                       go_simp
                       first | done | rfl | exact ⟨rfl, rfl⟩)
                  go_big_quiet_on)))
        refine wpQuiet_nil ?_
        intro w9 hw9
        have HB9 := hide (unhide HCL3 w9 hw9).1
        go_wp2
        go_ret
        exact ⟨ret_b (unhide HF).symm, unhide HB9⟩
      | true =>
        rw [r3] at HC3
        cases r4 : listR l n 2 1000 with
        | false =>
          have HF : Hid (kidR 28 l n = false) := by show kidR 28 l n = false; rw [unhide HR, r1, r2, r3, r4]; rfl
          rw [r4] at HC4
          clear r1 r2 r3 r4
          go_enter Tryz.func78, Tryz.ntmps78
          go_wp2
          refine region_D (S := fun w' => Below W2.heap.size W2 w') (C := fun w' => Below W3.heap.size W3 w') (w3 := W3) (v0 := .agg #[.slice (some ⟨bb, o, none⟩) l.length cap]) (v1 := .int .i64 (n : Int)) (v2 := .slice (some ⟨W2.heap.size, 0, none⟩) 3 3) (by kernel_rfl) (by kernel_rfl) (by kernel_rfl) (by kernel_rfl) (by kernel_rfl) (by kernel_rfl) (by kernel_rfl) (by kernel_rfl) (.inl ⟨rfl, fun w hw => ?_⟩) (.inl ⟨rfl, fun w hw => ?_⟩) rfl ?_ hBB.drew (Below.refl _ _) (fun w hw => unhide HCS w hw) ?_
          · obtain ⟨f0, f1, f2, f3, f4, f5⟩ := unhide HCL w hw
            go_simp
          · go_simp
          · rw [← unhide HW3]
            go_simp
            first | done | rfl
          simp only [Act.put, List.setIfInBounds_toArray, List.set_cons_zero, List.set_cons_succ]
          repeat (first
            | go_big_quiet_skip
            | (go_big_quiet_want
               go_big_quiet_op
               first
                 | go_big_quiet_on
                 | (apply Exists.intro
                    refine ⟨fun w hw => ?_, ?_⟩
                    first
                      | rfl
                      | (go_at_call 109; exact unhide HC1 w hw)
                      | (go_at_call 112; exact unhide HC2 w hw)
                      | (go_at_call_of 108 (1001 : Int); exact unhide HC3 w hw)
                      | (go_at_call_of 108 (1000 : Int); exact unhide HC4 w hw)
                      | (obtain ⟨f0, f1, f2, f3, f4, f5⟩ := unhide HCL3 w hw
                         have f6 := unhide HKC w hw
                         go_simp
                         first | done | rfl | exact ⟨rfl, rfl⟩)
                    go_big_quiet_on)))
          refine wpQuiet_nil ?_
          intro w9 hw9
          have HB9 := hide (unhide HCL3 w9 hw9).1
          go_wp2
          go_ret
          exact ⟨ret_b (unhide HF).symm, unhide HB9⟩
        | true =>
          have HF : Hid (kidR 28 l n = true) := by show kidR 28 l n = true; rw [unhide HR, r1, r2, r3, r4]; rfl
          rw [r4] at HC4
          clear r1 r2 r3 r4
          go_enter Tryz.func78, Tryz.ntmps78
          go_wp2
          refine region_D (S := fun w' => Below W2.heap.size W2 w') (C := fun w' => Below W3.heap.size W3 w') (w3 := W3) (v0 := .agg #[.slice (some ⟨bb, o, none⟩) l.length cap]) (v1 := .int .i64 (n : Int)) (v2 := .slice (some ⟨W2.heap.size, 0, none⟩) 3 3) (by kernel_rfl) (by kernel_rfl) (by kernel_rfl) (by kernel_rfl) (by kernel_rfl) (by kernel_rfl) (by kernel_rfl) (by kernel_rfl) (.inl ⟨rfl, fun w hw => ?_⟩) (.inl ⟨rfl, fun w hw => ?_⟩) rfl ?_ hBB.drew (Below.refl _ _) (fun w hw => unhide HCS w hw) ?_
          · obtain ⟨f0, f1, f2, f3, f4, f5⟩ := unhide HCL w hw
            go_simp
          · go_simp
          · rw [← unhide HW3]
            go_simp
            first | done | rfl
          simp only [Act.put, List.setIfInBounds_toArray, List.set_cons_zero, List.set_cons_succ]
          repeat (first
            | go_big_quiet_skip
            | (go_big_quiet_want
               go_big_quiet_op
               first
                 | go_big_quiet_on
                 | (apply Exists.intro
                    refine ⟨fun w hw => ?_, ?_⟩
                    first
                      | rfl
                      | (go_at_call 109; exact unhide HC1 w hw)
                      | (go_at_call 112; exact unhide HC2 w hw)
                      | (go_at_call_of 108 (1001 : Int); exact unhide HC3 w hw)
                      | (go_at_call_of 108 (1000 : Int); exact unhide HC4 w hw)
                      | (obtain ⟨f0, f1, f2, f3, f4, f5⟩ := unhide HCL3 w hw
                         have f6 := unhide HKC w hw
                         go_simp
                         first | done | rfl | exact ⟨rfl, rfl⟩)
                    go_big_quiet_on)))
          refine wpQuiet_nil ?_
          intro w9 hw9
          have HB9 := hide (unhide HCL3 w9 hw9).1
          go_wp2
          go_ret
          exact ⟨ret_b (unhide HF).symm, unhide HB9⟩
end Go.Proofs.YtnnpkomedpjlcaaGreatDoor

/- The reference's kids of declarations; its Kind, numbered, names, dotted, Good, texted. -/
import Derived.Deep.RegionWith
import Derived.Laws.OwnMore
import Derived.Lib.IndexBytes
import Derived.Lib.SplitLaws
import Derived.LoopN
import Derived.OwnWalk
import Derived.Test.YtnnpkomedpjlcaaGreatDoorA3
import Derived.Test.YtnnpkomedpjlcaaGreatDoorG1
import Derived.Test.YtnnpkomedpjlcaaGreatDoorT8
import Derived.Test.YtnnpkomedpjlcaaGreatDoorT9
import Derived.Test.YtnnpkomedpjlcaaGreatDoorTA
import Derived.Test.YtnnpkomedpjlcaaGreatDoorTB
import Derived.Test.YtnnpkomedpjlcaaGreatDoorTK
/- The reference's kids of declarations. -/
namespace Go.Proofs.YtnnpkomedpjlcaaGreatDoor
set_option linter.unusedSimpArgs false
set_option linter.unusedVariables false
open Go.RowKit

set_option maxRecDepth 100000 in
set_option maxHeartbeats 2000000 in
theorem arm_40 (W : World) (M : Nat) (v : Value) (l : List Nd) (n : Nat) (hN : Nodes W M v l) (hM : M ≤ W.heap.size) (hn : n < l.length) (hk : (nd l n).kind = 40) :
    Calls Tryz.prog 79 #[.agg #[v], .int .i64 (n : Int)] W fun e w' => e = .returned (.bool (kidR 40 l n)) ∧ Below W.heap.size W w' := by
  obtain ⟨bb, o, cap, ka, kc, W1, W2, rfl, hW1, hW2, hc1, hc2, hl1, hkl, HKA, hkc, hkm, ⟨c0, d0, d1, d2, d3, d4, s1, s2⟩, HCL, HREF, HB0⟩ := arm_start W M v l n hN hM hn
  obtain ⟨z0, z1, z2, z3, z4, z5⟩ := unhide HCL W2 (unhide HB0)
  have HZ0 := hide z0
  rw [hk] at hW2 d0 z2 HCL
  have hlt : (n : Int) < l.length := by omega
  have hn0 : (0 : Int) ≤ (n : Int) := by omega
  obtain ⟨nk, hnk⟩ : ∃ nk, (nd l n).kids.length = nk := ⟨_, rfl⟩
  have HNK := hide hnk
  rw [hnk] at hW2 d3 z3 HCL hkl hkc
  clear hN hk hnk z0
  have hBB := unhide HB0
  have HC1 : Hid (Calls Tryz.prog 109 #[.agg #[.slice (some ⟨bb, o, none⟩) l.length cap], .int .i64 (n : Int), .slice (some ⟨W2.heap.size, 0, none⟩) 2 2] (W2.alloc (.cells #[.int .i64 (-1001), .int .i64 1000] 3)) fun e w' => e = .returned (.bool (rowR l n [-1001, 1000])) ∧ Below W2.heap.size W2 w') := (unhide HREF).row W2 (unhide HB0) [-1001, 1000] (by decide) (by decide)
  cases h1 : rowR l n [-1001, 1000] with
  | true =>
    have H1 := hide h1
    rw [h1] at HC1
    clear h1
    have HF : Hid (kidR 40 l n = true) := by show kidR 40 l n = _; simp [kidR, funcR, unhide HNK, unhide H1]
    go_enter Tryz.func79, Tryz.ntmps79
    go_wp2_with (first | (go_at_call 109; refine (unhide HC1).mono ?_; rintro e w3 ⟨rfl, hB3⟩; obtain ⟨y00, y01, y02, y03, y04, y05⟩ := unhide HCL w3 hB3))
    go_ret
    exact ⟨ret_b (unhide HF).symm, (unhide HCL w3 hB3).1⟩
  | false =>
    have H1 := hide h1
    rw [h1] at HC1
    clear h1
    have HF : Hid (kidR 40 l n = false) := by show kidR 40 l n = _; simp [kidR, funcR, unhide HNK, unhide H1]
    go_enter Tryz.func79, Tryz.ntmps79
    go_wp2_with (first | (go_at_call 109; refine (unhide HC1).mono ?_; rintro e w3 ⟨rfl, hB3⟩; obtain ⟨y00, y01, y02, y03, y04, y05⟩ := unhide HCL w3 hB3))
    go_ret
    exact ⟨ret_b (unhide HF).symm, (unhide HCL w3 hB3).1⟩
set_option maxRecDepth 100000 in
set_option maxHeartbeats 2000000 in
theorem arm_44 (W : World) (M : Nat) (v : Value) (l : List Nd) (n : Nat) (hN : Nodes W M v l) (hM : M ≤ W.heap.size) (hn : n < l.length) (hk : (nd l n).kind = 44) :
    Calls Tryz.prog 79 #[.agg #[v], .int .i64 (n : Int)] W fun e w' => e = .returned (.bool (kidR 44 l n)) ∧ Below W.heap.size W w' := by
  obtain ⟨bb, o, cap, ka, kc, W1, W2, rfl, hW1, hW2, hc1, hc2, hl1, hkl, HKA, hkc, hkm, ⟨c0, d0, d1, d2, d3, d4, s1, s2⟩, HCL, HREF, HB0⟩ := arm_start W M v l n hN hM hn
  obtain ⟨z0, z1, z2, z3, z4, z5⟩ := unhide HCL W2 (unhide HB0)
  have HZ0 := hide z0
  rw [hk] at hW2 d0 z2 HCL
  have hlt : (n : Int) < l.length := by omega
  have hn0 : (0 : Int) ≤ (n : Int) := by omega
  obtain ⟨nk, hnk⟩ : ∃ nk, (nd l n).kids.length = nk := ⟨_, rfl⟩
  have HNK := hide hnk
  rw [hnk] at hW2 d3 z3 HCL hkl hkc
  clear hN hk hnk z0
  have hBB := unhide HB0
  have HC1 : Hid (Calls Tryz.prog 109 #[.agg #[.slice (some ⟨bb, o, none⟩) l.length cap], .int .i64 (n : Int), .slice (some ⟨W2.heap.size, 0, none⟩) 2 2] (W2.alloc (.cells #[.int .i64 (-1001), .int .i64 (-1000)] 3)) fun e w' => e = .returned (.bool (rowR l n [-1001, -1000])) ∧ Below W2.heap.size W2 w') := (unhide HREF).row W2 (unhide HB0) [-1001, -1000] (by decide) (by decide)
  cases h1 : rowR l n [-1001, -1000] with
  | true =>
    have H1 := hide h1
    rw [h1] at HC1
    clear h1
    have HF : Hid (kidR 44 l n = true) := by show kidR 44 l n = _; simp [kidR, funcR, unhide HNK, unhide H1]
    go_enter Tryz.func79, Tryz.ntmps79
    go_wp2_with (first | (go_at_call 109; refine (unhide HC1).mono ?_; rintro e w3 ⟨rfl, hB3⟩; obtain ⟨y00, y01, y02, y03, y04, y05⟩ := unhide HCL w3 hB3))
    go_ret
    exact ⟨ret_b (unhide HF).symm, (unhide HCL w3 hB3).1⟩
  | false =>
    have H1 := hide h1
    rw [h1] at HC1
    clear h1
    have HF : Hid (kidR 44 l n = false) := by show kidR 44 l n = _; simp [kidR, funcR, unhide HNK, unhide H1]
    go_enter Tryz.func79, Tryz.ntmps79
    go_wp2_with (first | (go_at_call 109; refine (unhide HC1).mono ?_; rintro e w3 ⟨rfl, hB3⟩; obtain ⟨y00, y01, y02, y03, y04, y05⟩ := unhide HCL w3 hB3))
    go_ret
    exact ⟨ret_b (unhide HF).symm, (unhide HCL w3 hB3).1⟩
set_option maxRecDepth 100000 in
set_option maxHeartbeats 2000000 in
theorem arm_48 (W : World) (M : Nat) (v : Value) (l : List Nd) (n : Nat) (hN : Nodes W M v l) (hM : M ≤ W.heap.size) (hn : n < l.length) (hk : (nd l n).kind = 48) :
    Calls Tryz.prog 79 #[.agg #[v], .int .i64 (n : Int)] W fun e w' => e = .returned (.bool (kidR 48 l n)) ∧ Below W.heap.size W w' := by
  obtain ⟨bb, o, cap, ka, kc, W1, W2, rfl, hW1, hW2, hc1, hc2, hl1, hkl, HKA, hkc, hkm, ⟨c0, d0, d1, d2, d3, d4, s1, s2⟩, HCL, HREF, HB0⟩ := arm_start W M v l n hN hM hn
  obtain ⟨z0, z1, z2, z3, z4, z5⟩ := unhide HCL W2 (unhide HB0)
  have HZ0 := hide z0
  rw [hk] at hW2 d0 z2 HCL
  have hlt : (n : Int) < l.length := by omega
  have hn0 : (0 : Int) ≤ (n : Int) := by omega
  obtain ⟨nk, hnk⟩ : ∃ nk, (nd l n).kids.length = nk := ⟨_, rfl⟩
  have HNK := hide hnk
  rw [hnk] at hW2 d3 z3 HCL hkl hkc
  clear hN hk hnk z0
  have hBB := unhide HB0
  have HC1 : Hid (Calls Tryz.prog 109 #[.agg #[.slice (some ⟨bb, o, none⟩) l.length cap], .int .i64 (n : Int), .slice (some ⟨W2.heap.size, 0, none⟩) 1 1] (W2.alloc (.cells #[.int .i64 (-1000)] 3)) fun e w' => e = .returned (.bool (rowR l n [-1000])) ∧ Below W2.heap.size W2 w') := (unhide HREF).row W2 (unhide HB0) [-1000] (by decide) (by decide)
  cases h1 : rowR l n [-1000] with
  | true =>
    have H1 := hide h1
    rw [h1] at HC1
    clear h1
    have HF : Hid (kidR 48 l n = true) := by show kidR 48 l n = _; simp [kidR, funcR, unhide HNK, unhide H1]
    go_enter Tryz.func79, Tryz.ntmps79
    go_wp2_with (first | (go_at_call 109; refine (unhide HC1).mono ?_; rintro e w3 ⟨rfl, hB3⟩; obtain ⟨y00, y01, y02, y03, y04, y05⟩ := unhide HCL w3 hB3))
    go_ret
    exact ⟨ret_b (unhide HF).symm, (unhide HCL w3 hB3).1⟩
  | false =>
    have H1 := hide h1
    rw [h1] at HC1
    clear h1
    have HF : Hid (kidR 48 l n = false) := by show kidR 48 l n = _; simp [kidR, funcR, unhide HNK, unhide H1]
    go_enter Tryz.func79, Tryz.ntmps79
    go_wp2_with (first | (go_at_call 109; refine (unhide HC1).mono ?_; rintro e w3 ⟨rfl, hB3⟩; obtain ⟨y00, y01, y02, y03, y04, y05⟩ := unhide HCL w3 hB3))
    go_ret
    exact ⟨ret_b (unhide HF).symm, (unhide HCL w3 hB3).1⟩
set_option maxRecDepth 100000 in
set_option maxHeartbeats 2000000 in
theorem arm_66 (W : World) (M : Nat) (v : Value) (l : List Nd) (n : Nat) (hN : Nodes W M v l) (hM : M ≤ W.heap.size) (hn : n < l.length) (hk : (nd l n).kind = 66) :
    Calls Tryz.prog 79 #[.agg #[v], .int .i64 (n : Int)] W fun e w' => e = .returned (.bool (kidR 66 l n)) ∧ Below W.heap.size W w' := by
  obtain ⟨bb, o, cap, ka, kc, W1, W2, rfl, hW1, hW2, hc1, hc2, hl1, hkl, HKA, hkc, hkm, ⟨c0, d0, d1, d2, d3, d4, s1, s2⟩, HCL, HREF, HB0⟩ := arm_start W M v l n hN hM hn
  obtain ⟨z0, z1, z2, z3, z4, z5⟩ := unhide HCL W2 (unhide HB0)
  have HZ0 := hide z0
  rw [hk] at hW2 d0 z2 HCL
  have hlt : (n : Int) < l.length := by omega
  have hn0 : (0 : Int) ≤ (n : Int) := by omega
  obtain ⟨nk, hnk⟩ : ∃ nk, (nd l n).kids.length = nk := ⟨_, rfl⟩
  have HNK := hide hnk
  rw [hnk] at hW2 d3 z3 HCL hkl hkc
  clear hN hk hnk z0
  have hBB := unhide HB0
  have HC1 : Hid (Calls Tryz.prog 109 #[.agg #[.slice (some ⟨bb, o, none⟩) l.length cap], .int .i64 (n : Int), .slice (some ⟨W2.heap.size, 0, none⟩) 1 1] (W2.alloc (.cells #[.int .i64 (-1001)] 3)) fun e w' => e = .returned (.bool (rowR l n [-1001])) ∧ Below W2.heap.size W2 w') := (unhide HREF).row W2 (unhide HB0) [-1001] (by decide) (by decide)
  cases h1 : rowR l n [-1001] with
  | true =>
    have H1 := hide h1
    rw [h1] at HC1
    clear h1
    have HF : Hid (kidR 66 l n = true) := by show kidR 66 l n = _; simp [kidR, funcR, unhide HNK, unhide H1]
    go_enter Tryz.func79, Tryz.ntmps79
    go_wp2_with (first | (go_at_call 109; refine (unhide HC1).mono ?_; rintro e w3 ⟨rfl, hB3⟩; obtain ⟨y00, y01, y02, y03, y04, y05⟩ := unhide HCL w3 hB3))
    go_ret
    exact ⟨ret_b (unhide HF).symm, (unhide HCL w3 hB3).1⟩
  | false =>
    have H1 := hide h1
    rw [h1] at HC1
    clear h1
    have HF : Hid (kidR 66 l n = false) := by show kidR 66 l n = _; simp [kidR, funcR, unhide HNK, unhide H1]
    go_enter Tryz.func79, Tryz.ntmps79
    go_wp2_with (first | (go_at_call 109; refine (unhide HC1).mono ?_; rintro e w3 ⟨rfl, hB3⟩; obtain ⟨y00, y01, y02, y03, y04, y05⟩ := unhide HCL w3 hB3))
    go_ret
    exact ⟨ret_b (unhide HF).symm, (unhide HCL w3 hB3).1⟩
set_option maxRecDepth 100000 in
set_option maxHeartbeats 2000000 in
theorem arm_47 (W : World) (M : Nat) (v : Value) (l : List Nd) (n : Nat) (hN : Nodes W M v l) (hM : M ≤ W.heap.size) (hn : n < l.length) (hk : (nd l n).kind = 47) :
    Calls Tryz.prog 79 #[.agg #[v], .int .i64 (n : Int)] W fun e w' => e = .returned (.bool (kidR 47 l n)) ∧ Below W.heap.size W w' := by
  obtain ⟨bb, o, cap, ka, kc, W1, W2, rfl, hW1, hW2, hc1, hc2, hl1, hkl, HKA, hkc, hkm, ⟨c0, d0, d1, d2, d3, d4, s1, s2⟩, HCL, HREF, HB0⟩ := arm_start W M v l n hN hM hn
  obtain ⟨z0, z1, z2, z3, z4, z5⟩ := unhide HCL W2 (unhide HB0)
  have HZ0 := hide z0
  rw [hk] at hW2 d0 z2 HCL
  have hlt : (n : Int) < l.length := by omega
  have hn0 : (0 : Int) ≤ (n : Int) := by omega
  obtain ⟨nk, hnk⟩ : ∃ nk, (nd l n).kids.length = nk := ⟨_, rfl⟩
  have HNK := hide hnk
  rw [hnk] at hW2 d3 z3 HCL hkl hkc
  clear hN hk hnk z0
  have hBB := unhide HB0
  have HC1 : Hid (∀ w, Below W2.heap.size W2 w → Calls Tryz.prog 110 #[.agg #[.slice (some ⟨bb, o, none⟩) l.length cap], .int .i64 (n : Int), .int .i64 48, .int .i64 48] w fun e w' => e = .returned (.bool (eachU l n 48 48 nk)) ∧ Below W2.heap.size W2 w') := fun w hw => by rw [← unhide HNK]; exact (unhide HREF).each w hw 48 48
  cases h1 : eachU l n 48 48 nk with
  | true =>
    have H1 := hide h1
    rw [h1] at HC1
    clear h1
    have HF : Hid (kidR 47 l n = true) := by show kidR 47 l n = _; simp [kidR, funcR, unhide HNK, unhide H1]
    go_enter Tryz.func79, Tryz.ntmps79
    go_wp2_with (first | (go_at_call 110; refine (unhide HC1 _ (by assumption)).mono ?_; rintro e w3 ⟨rfl, hB3⟩; obtain ⟨y00, y01, y02, y03, y04, y05⟩ := unhide HCL w3 hB3))
    go_ret
    exact ⟨ret_b (unhide HF).symm, (unhide HCL w3 hB3).1⟩
  | false =>
    have H1 := hide h1
    rw [h1] at HC1
    clear h1
    have HF : Hid (kidR 47 l n = false) := by show kidR 47 l n = _; simp [kidR, funcR, unhide HNK, unhide H1]
    go_enter Tryz.func79, Tryz.ntmps79
    go_wp2_with (first | (go_at_call 110; refine (unhide HC1 _ (by assumption)).mono ?_; rintro e w3 ⟨rfl, hB3⟩; obtain ⟨y00, y01, y02, y03, y04, y05⟩ := unhide HCL w3 hB3))
    go_ret
    exact ⟨ret_b (unhide HF).symm, (unhide HCL w3 hB3).1⟩
set_option maxRecDepth 100000 in
set_option maxHeartbeats 2000000 in
theorem arm_49 (W : World) (M : Nat) (v : Value) (l : List Nd) (n : Nat) (hN : Nodes W M v l) (hM : M ≤ W.heap.size) (hn : n < l.length) (hk : (nd l n).kind = 49) :
    Calls Tryz.prog 79 #[.agg #[v], .int .i64 (n : Int)] W fun e w' => e = .returned (.bool (kidR 49 l n)) ∧ Below W.heap.size W w' := by
  obtain ⟨bb, o, cap, ka, kc, W1, W2, rfl, hW1, hW2, hc1, hc2, hl1, hkl, HKA, hkc, hkm, ⟨c0, d0, d1, d2, d3, d4, s1, s2⟩, HCL, HREF, HB0⟩ := arm_start W M v l n hN hM hn
  obtain ⟨z0, z1, z2, z3, z4, z5⟩ := unhide HCL W2 (unhide HB0)
  have HZ0 := hide z0
  rw [hk] at hW2 d0 z2 HCL
  have hlt : (n : Int) < l.length := by omega
  have hn0 : (0 : Int) ≤ (n : Int) := by omega
  obtain ⟨nk, hnk⟩ : ∃ nk, (nd l n).kids.length = nk := ⟨_, rfl⟩
  have HNK := hide hnk
  rw [hnk] at hW2 d3 z3 HCL hkl hkc
  clear hN hk hnk z0
  have hBB := unhide HB0
  have HC1 : Hid (∀ w, Below W2.heap.size W2 w → Calls Tryz.prog 110 #[.agg #[.slice (some ⟨bb, o, none⟩) l.length cap], .int .i64 (n : Int), .int .i64 1002, .int .i64 50] w fun e w' => e = .returned (.bool (eachU l n 1002 50 nk)) ∧ Below W2.heap.size W2 w') := fun w hw => by rw [← unhide HNK]; exact (unhide HREF).each w hw 1002 50
  cases h1 : eachU l n 1002 50 nk with
  | true =>
    have H1 := hide h1
    rw [h1] at HC1
    clear h1
    have HF : Hid (kidR 49 l n = true) := by show kidR 49 l n = _; simp [kidR, funcR, unhide HNK, unhide H1]
    go_enter Tryz.func79, Tryz.ntmps79
    go_wp2_with (first | (go_at_call 110; refine (unhide HC1 _ (by assumption)).mono ?_; rintro e w3 ⟨rfl, hB3⟩; obtain ⟨y00, y01, y02, y03, y04, y05⟩ := unhide HCL w3 hB3))
    go_ret
    exact ⟨ret_b (unhide HF).symm, (unhide HCL w3 hB3).1⟩
  | false =>
    have H1 := hide h1
    rw [h1] at HC1
    clear h1
    have HF : Hid (kidR 49 l n = false) := by show kidR 49 l n = _; simp [kidR, funcR, unhide HNK, unhide H1]
    go_enter Tryz.func79, Tryz.ntmps79
    go_wp2_with (first | (go_at_call 110; refine (unhide HC1 _ (by assumption)).mono ?_; rintro e w3 ⟨rfl, hB3⟩; obtain ⟨y00, y01, y02, y03, y04, y05⟩ := unhide HCL w3 hB3))
    go_ret
    exact ⟨ret_b (unhide HF).symm, (unhide HCL w3 hB3).1⟩
set_option maxRecDepth 100000 in
set_option maxHeartbeats 2000000 in
theorem arm_43 (W : World) (M : Nat) (v : Value) (l : List Nd) (n : Nat) (hN : Nodes W M v l) (hM : M ≤ W.heap.size) (hn : n < l.length) (hk : (nd l n).kind = 43) :
    Calls Tryz.prog 79 #[.agg #[v], .int .i64 (n : Int)] W fun e w' => e = .returned (.bool (kidR 43 l n)) ∧ Below W.heap.size W w' := by
  obtain ⟨bb, o, cap, ka, kc, W1, W2, rfl, hW1, hW2, hc1, hc2, hl1, hkl, HKA, hkc, hkm, ⟨c0, d0, d1, d2, d3, d4, s1, s2⟩, HCL, HREF, HB0⟩ := arm_start W M v l n hN hM hn
  obtain ⟨z0, z1, z2, z3, z4, z5⟩ := unhide HCL W2 (unhide HB0)
  have HZ0 := hide z0
  rw [hk] at hW2 d0 z2 HCL
  have hlt : (n : Int) < l.length := by omega
  have hn0 : (0 : Int) ≤ (n : Int) := by omega
  obtain ⟨nk, hnk⟩ : ∃ nk, (nd l n).kids.length = nk := ⟨_, rfl⟩
  have HNK := hide hnk
  rw [hnk] at hW2 d3 z3 HCL hkl hkc
  clear hN hk hnk z0
  have hBB := unhide HB0
  by_cases h1 : nk = 1
  case pos =>
    have g1_h1 : (nk : Int) = 1 := by omega
    have H1 := hide h1
    clear h1
    have HC2 : Hid (∀ w, Below W2.heap.size W2 w → Calls Tryz.prog 108 #[.agg #[.slice (some ⟨bb, o, none⟩) l.length cap], .int .i64 (n : Int), .int .i64 0, .int .i64 1001] w fun e w' => e = .returned (.bool (listR l n 0 1001)) ∧ Below W2.heap.size W2 w') := fun w hw => (unhide HREF).list w hw 0 1001 (by decide)
    cases h2 : listR l n 0 1001 with
    | true =>
      have H2 := hide h2
      rw [h2] at HC2
      clear h2
      have HF : Hid (kidR 43 l n = true) := by show kidR 43 l n = _; simp [kidR, funcR, unhide HNK, unhide H1, unhide H2]
      go_enter Tryz.func79, Tryz.ntmps79
      go_wp2_with (first | (go_at_call_of 108 (1001 : Int); refine (unhide HC2 _ (by assumption)).mono ?_; rintro e w3 ⟨rfl, hB3⟩; obtain ⟨y00, y01, y02, y03, y04, y05⟩ := unhide HCL w3 hB3))
      go_ret
      exact ⟨ret_b (unhide HF).symm, (unhide HCL w3 hB3).1⟩
    | false =>
      have H2 := hide h2
      rw [h2] at HC2
      clear h2
      have HF : Hid (kidR 43 l n = false) := by show kidR 43 l n = _; simp [kidR, funcR, unhide HNK, unhide H1, unhide H2]
      go_enter Tryz.func79, Tryz.ntmps79
      go_wp2_with (first | (go_at_call_of 108 (1001 : Int); refine (unhide HC2 _ (by assumption)).mono ?_; rintro e w3 ⟨rfl, hB3⟩; obtain ⟨y00, y01, y02, y03, y04, y05⟩ := unhide HCL w3 hB3))
      go_ret
      exact ⟨ret_b (unhide HF).symm, (unhide HCL w3 hB3).1⟩
  case neg =>
    have g2_h1 : ¬ (nk : Int) = 1 := by omega
    have gb2_h1 : ((nk : Int) == 1) = false := by simpa using g2_h1
    have H1 := hide h1
    clear h1
    have HF : Hid (kidR 43 l n = false) := by show kidR 43 l n = _; simp [kidR, funcR, unhide HNK, unhide H1]
    go_enter Tryz.func79, Tryz.ntmps79
    go_wp2
    go_ret
    exact ⟨ret_b (unhide HF).symm, unhide HZ0⟩
set_option maxRecDepth 100000 in
set_option maxHeartbeats 2000000 in
theorem arm_46 (W : World) (M : Nat) (v : Value) (l : List Nd) (n : Nat) (hN : Nodes W M v l) (hM : M ≤ W.heap.size) (hn : n < l.length) (hk : (nd l n).kind = 46) :
    Calls Tryz.prog 79 #[.agg #[v], .int .i64 (n : Int)] W fun e w' => e = .returned (.bool (kidR 46 l n)) ∧ Below W.heap.size W w' := by
  obtain ⟨bb, o, cap, ka, kc, W1, W2, rfl, hW1, hW2, hc1, hc2, hl1, hkl, HKA, hkc, hkm, ⟨c0, d0, d1, d2, d3, d4, s1, s2⟩, HCL, HREF, HB0⟩ := arm_start W M v l n hN hM hn
  obtain ⟨z0, z1, z2, z3, z4, z5⟩ := unhide HCL W2 (unhide HB0)
  have HZ0 := hide z0
  rw [hk] at hW2 d0 z2 HCL
  have hlt : (n : Int) < l.length := by omega
  have hn0 : (0 : Int) ≤ (n : Int) := by omega
  obtain ⟨nk, hnk⟩ : ∃ nk, (nd l n).kids.length = nk := ⟨_, rfl⟩
  have HNK := hide hnk
  rw [hnk] at hW2 d3 z3 HCL hkl hkc
  clear hN hk hnk z0
  have hBB := unhide HB0
  have HC1 : Hid (Calls Tryz.prog 109 #[.agg #[.slice (some ⟨bb, o, none⟩) l.length cap], .int .i64 (n : Int), .slice (some ⟨W2.heap.size, 0, none⟩) 2 2] (W2.alloc (.cells #[.int .i64 2, .int .i64 63] 3)) fun e w' => e = .returned (.bool (rowR l n [2, 63])) ∧ Below W2.heap.size W2 w') := (unhide HREF).row W2 (unhide HB0) [2, 63] (by decide) (by decide)
  cases h1 : rowR l n [2, 63] with
  | true =>
    have H1 := hide h1
    rw [h1] at HC1
    clear h1
    have HC2 : Hid (∀ w, Below W2.heap.size W2 w → Calls Tryz.prog 108 #[.agg #[.slice (some ⟨bb, o, none⟩) l.length cap], .int .i64 (n : Int), .int .i64 0, .int .i64 1004] w fun e w' => e = .returned (.bool (listR l n 0 1004)) ∧ Below W2.heap.size W2 w') := fun w hw => (unhide HREF).list w hw 0 1004 (by decide)
    cases h2 : listR l n 0 1004 with
    | true =>
      have H2 := hide h2
      rw [h2] at HC2
      clear h2
      have HF : Hid (kidR 46 l n = true) := by show kidR 46 l n = _; simp [kidR, funcR, unhide HNK, unhide H1, unhide H2]
      go_enter Tryz.func79, Tryz.ntmps79
      go_wp2_with (first | (go_at_call 109; refine (unhide HC1).mono ?_; rintro e w3 ⟨rfl, hB3⟩; obtain ⟨y00, y01, y02, y03, y04, y05⟩ := unhide HCL w3 hB3) | (go_at_call_of 108 (1004 : Int); refine (unhide HC2 _ (by assumption)).mono ?_; rintro e w4 ⟨rfl, hB4⟩; obtain ⟨y10, y11, y12, y13, y14, y15⟩ := unhide HCL w4 hB4))
      go_ret
      exact ⟨ret_b (unhide HF).symm, (unhide HCL w4 hB4).1⟩
    | false =>
      have H2 := hide h2
      rw [h2] at HC2
      clear h2
      have HF : Hid (kidR 46 l n = false) := by show kidR 46 l n = _; simp [kidR, funcR, unhide HNK, unhide H1, unhide H2]
      go_enter Tryz.func79, Tryz.ntmps79
      go_wp2_with (first | (go_at_call 109; refine (unhide HC1).mono ?_; rintro e w3 ⟨rfl, hB3⟩; obtain ⟨y00, y01, y02, y03, y04, y05⟩ := unhide HCL w3 hB3) | (go_at_call_of 108 (1004 : Int); refine (unhide HC2 _ (by assumption)).mono ?_; rintro e w4 ⟨rfl, hB4⟩; obtain ⟨y10, y11, y12, y13, y14, y15⟩ := unhide HCL w4 hB4))
      go_ret
      exact ⟨ret_b (unhide HF).symm, (unhide HCL w4 hB4).1⟩
  | false =>
    have H1 := hide h1
    rw [h1] at HC1
    clear h1
    have HF : Hid (kidR 46 l n = false) := by show kidR 46 l n = _; simp [kidR, funcR, unhide HNK, unhide H1]
    go_enter Tryz.func79, Tryz.ntmps79
    go_wp2_with (first | (go_at_call 109; refine (unhide HC1).mono ?_; rintro e w3 ⟨rfl, hB3⟩; obtain ⟨y00, y01, y02, y03, y04, y05⟩ := unhide HCL w3 hB3))
    go_ret
    exact ⟨ret_b (unhide HF).symm, (unhide HCL w3 hB3).1⟩
set_option maxRecDepth 100000 in
set_option maxHeartbeats 2000000 in
theorem arm_51 (W : World) (M : Nat) (v : Value) (l : List Nd) (n : Nat) (hN : Nodes W M v l) (hM : M ≤ W.heap.size) (hn : n < l.length) (hk : (nd l n).kind = 51) :
    Calls Tryz.prog 79 #[.agg #[v], .int .i64 (n : Int)] W fun e w' => e = .returned (.bool (kidR 51 l n)) ∧ Below W.heap.size W w' := by
  obtain ⟨bb, o, cap, ka, kc, W1, W2, rfl, hW1, hW2, hc1, hc2, hl1, hkl, HKA, hkc, hkm, ⟨c0, d0, d1, d2, d3, d4, s1, s2⟩, HCL, HREF, HB0⟩ := arm_start W M v l n hN hM hn
  obtain ⟨z0, z1, z2, z3, z4, z5⟩ := unhide HCL W2 (unhide HB0)
  have HZ0 := hide z0
  rw [hk] at hW2 d0 z2 HCL
  have hlt : (n : Int) < l.length := by omega
  have hn0 : (0 : Int) ≤ (n : Int) := by omega
  obtain ⟨nk, hnk⟩ : ∃ nk, (nd l n).kids.length = nk := ⟨_, rfl⟩
  have HNK := hide hnk
  rw [hnk] at hW2 d3 z3 HCL hkl hkc
  clear hN hk hnk z0
  have hBB := unhide HB0
  have HC1 : Hid (Calls Tryz.prog 109 #[.agg #[.slice (some ⟨bb, o, none⟩) l.length cap], .int .i64 (n : Int), .slice (some ⟨W2.heap.size, 0, none⟩) 3 3] (W2.alloc (.cells #[.int .i64 2, .int .i64 2, .int .i64 84] 3)) fun e w' => e = .returned (.bool (rowR l n [2, 2, 84])) ∧ Below W2.heap.size W2 w') := (unhide HREF).row W2 (unhide HB0) [2, 2, 84] (by decide) (by decide)
  cases h1 : rowR l n [2, 2, 84] with
  | true =>
    have H1 := hide h1
    rw [h1] at HC1
    clear h1
    have HC2 : Hid (∀ w, Below W2.heap.size W2 w → Calls Tryz.prog 108 #[.agg #[.slice (some ⟨bb, o, none⟩) l.length cap], .int .i64 (n : Int), .int .i64 0, .int .i64 67] w fun e w' => e = .returned (.bool (listR l n 0 67)) ∧ Below W2.heap.size W2 w') := fun w hw => (unhide HREF).list w hw 0 67 (by decide)
    cases h2 : listR l n 0 67 with
    | true =>
      have H2 := hide h2
      rw [h2] at HC2
      clear h2
      have HC3 : Hid (∀ w, Below W2.heap.size W2 w → Calls Tryz.prog 108 #[.agg #[.slice (some ⟨bb, o, none⟩) l.length cap], .int .i64 (n : Int), .int .i64 1, .int .i64 80] w fun e w' => e = .returned (.bool (listR l n 1 80)) ∧ Below W2.heap.size W2 w') := fun w hw => (unhide HREF).list w hw 1 80 (by decide)
      cases h3 : listR l n 1 80 with
      | true =>
        have H3 := hide h3
        rw [h3] at HC3
        clear h3
        have HF : Hid (kidR 51 l n = true) := by show kidR 51 l n = _; simp [kidR, funcR, unhide HNK, unhide H1, unhide H2, unhide H3]
        go_enter Tryz.func79, Tryz.ntmps79
        go_wp2_with (first | (go_at_call 109; refine (unhide HC1).mono ?_; rintro e w3 ⟨rfl, hB3⟩; obtain ⟨y00, y01, y02, y03, y04, y05⟩ := unhide HCL w3 hB3) | (go_at_call_of 108 (67 : Int); refine (unhide HC2 _ (by assumption)).mono ?_; rintro e w4 ⟨rfl, hB4⟩; obtain ⟨y10, y11, y12, y13, y14, y15⟩ := unhide HCL w4 hB4) | (go_at_call_of 108 (80 : Int); refine (unhide HC3 _ (by assumption)).mono ?_; rintro e w5 ⟨rfl, hB5⟩; obtain ⟨y20, y21, y22, y23, y24, y25⟩ := unhide HCL w5 hB5))
        go_ret
        exact ⟨ret_b (unhide HF).symm, (unhide HCL w5 hB5).1⟩
      | false =>
        have H3 := hide h3
        rw [h3] at HC3
        clear h3
        have HF : Hid (kidR 51 l n = false) := by show kidR 51 l n = _; simp [kidR, funcR, unhide HNK, unhide H1, unhide H2, unhide H3]
        go_enter Tryz.func79, Tryz.ntmps79
        go_wp2_with (first | (go_at_call 109; refine (unhide HC1).mono ?_; rintro e w3 ⟨rfl, hB3⟩; obtain ⟨y00, y01, y02, y03, y04, y05⟩ := unhide HCL w3 hB3) | (go_at_call_of 108 (67 : Int); refine (unhide HC2 _ (by assumption)).mono ?_; rintro e w4 ⟨rfl, hB4⟩; obtain ⟨y10, y11, y12, y13, y14, y15⟩ := unhide HCL w4 hB4) | (go_at_call_of 108 (80 : Int); refine (unhide HC3 _ (by assumption)).mono ?_; rintro e w5 ⟨rfl, hB5⟩; obtain ⟨y20, y21, y22, y23, y24, y25⟩ := unhide HCL w5 hB5))
        go_ret
        exact ⟨ret_b (unhide HF).symm, (unhide HCL w5 hB5).1⟩
    | false =>
      have H2 := hide h2
      rw [h2] at HC2
      clear h2
      have HF : Hid (kidR 51 l n = false) := by show kidR 51 l n = _; simp [kidR, funcR, unhide HNK, unhide H1, unhide H2]
      go_enter Tryz.func79, Tryz.ntmps79
      go_wp2_with (first | (go_at_call 109; refine (unhide HC1).mono ?_; rintro e w3 ⟨rfl, hB3⟩; obtain ⟨y00, y01, y02, y03, y04, y05⟩ := unhide HCL w3 hB3) | (go_at_call_of 108 (67 : Int); refine (unhide HC2 _ (by assumption)).mono ?_; rintro e w4 ⟨rfl, hB4⟩; obtain ⟨y10, y11, y12, y13, y14, y15⟩ := unhide HCL w4 hB4))
      go_ret
      exact ⟨ret_b (unhide HF).symm, (unhide HCL w4 hB4).1⟩
  | false =>
    have H1 := hide h1
    rw [h1] at HC1
    clear h1
    have HF : Hid (kidR 51 l n = false) := by show kidR 51 l n = _; simp [kidR, funcR, unhide HNK, unhide H1]
    go_enter Tryz.func79, Tryz.ntmps79
    go_wp2_with (first | (go_at_call 109; refine (unhide HC1).mono ?_; rintro e w3 ⟨rfl, hB3⟩; obtain ⟨y00, y01, y02, y03, y04, y05⟩ := unhide HCL w3 hB3))
    go_ret
    exact ⟨ret_b (unhide HF).symm, (unhide HCL w3 hB3).1⟩
set_option maxRecDepth 100000 in
set_option maxHeartbeats 2000000 in
theorem arm_52 (W : World) (M : Nat) (v : Value) (l : List Nd) (n : Nat) (hN : Nodes W M v l) (hM : M ≤ W.heap.size) (hn : n < l.length) (hk : (nd l n).kind = 52) :
    Calls Tryz.prog 79 #[.agg #[v], .int .i64 (n : Int)] W fun e w' => e = .returned (.bool (kidR 52 l n)) ∧ Below W.heap.size W w' := by
  obtain ⟨bb, o, cap, ka, kc, W1, W2, rfl, hW1, hW2, hc1, hc2, hl1, hkl, HKA, hkc, hkm, ⟨c0, d0, d1, d2, d3, d4, s1, s2⟩, HCL, HREF, HB0⟩ := arm_start W M v l n hN hM hn
  obtain ⟨z0, z1, z2, z3, z4, z5⟩ := unhide HCL W2 (unhide HB0)
  have HZ0 := hide z0
  rw [hk] at hW2 d0 z2 HCL
  have hlt : (n : Int) < l.length := by omega
  have hn0 : (0 : Int) ≤ (n : Int) := by omega
  obtain ⟨nk, hnk⟩ : ∃ nk, (nd l n).kids.length = nk := ⟨_, rfl⟩
  have HNK := hide hnk
  rw [hnk] at hW2 d3 z3 HCL hkl hkc
  clear hN hk hnk z0
  have hBB := unhide HB0
  have HC1 : Hid (Calls Tryz.prog 109 #[.agg #[.slice (some ⟨bb, o, none⟩) l.length cap], .int .i64 (n : Int), .slice (some ⟨W2.heap.size, 0, none⟩) 2 2] (W2.alloc (.cells #[.int .i64 2, .int .i64 1001] 3)) fun e w' => e = .returned (.bool (rowR l n [2, 1001])) ∧ Below W2.heap.size W2 w') := (unhide HREF).row W2 (unhide HB0) [2, 1001] (by decide) (by decide)
  cases h1 : rowR l n [2, 1001] with
  | true =>
    have H1 := hide h1
    rw [h1] at HC1
    clear h1
    have HC2 : Hid (∀ w, Below W2.heap.size W2 w → Calls Tryz.prog 108 #[.agg #[.slice (some ⟨bb, o, none⟩) l.length cap], .int .i64 (n : Int), .int .i64 0, .int .i64 67] w fun e w' => e = .returned (.bool (listR l n 0 67)) ∧ Below W2.heap.size W2 w') := fun w hw => (unhide HREF).list w hw 0 67 (by decide)
    cases h2 : listR l n 0 67 with
    | true =>
      have H2 := hide h2
      rw [h2] at HC2
      clear h2
      have HF : Hid (kidR 52 l n = true) := by show kidR 52 l n = _; simp [kidR, funcR, unhide HNK, unhide H1, unhide H2]
      go_enter Tryz.func79, Tryz.ntmps79
      go_wp2_with (first | (go_at_call 109; refine (unhide HC1).mono ?_; rintro e w3 ⟨rfl, hB3⟩; obtain ⟨y00, y01, y02, y03, y04, y05⟩ := unhide HCL w3 hB3) | (go_at_call_of 108 (67 : Int); refine (unhide HC2 _ (by assumption)).mono ?_; rintro e w4 ⟨rfl, hB4⟩; obtain ⟨y10, y11, y12, y13, y14, y15⟩ := unhide HCL w4 hB4))
      go_ret
      exact ⟨ret_b (unhide HF).symm, (unhide HCL w4 hB4).1⟩
    | false =>
      have H2 := hide h2
      rw [h2] at HC2
      clear h2
      have HF : Hid (kidR 52 l n = false) := by show kidR 52 l n = _; simp [kidR, funcR, unhide HNK, unhide H1, unhide H2]
      go_enter Tryz.func79, Tryz.ntmps79
      go_wp2_with (first | (go_at_call 109; refine (unhide HC1).mono ?_; rintro e w3 ⟨rfl, hB3⟩; obtain ⟨y00, y01, y02, y03, y04, y05⟩ := unhide HCL w3 hB3) | (go_at_call_of 108 (67 : Int); refine (unhide HC2 _ (by assumption)).mono ?_; rintro e w4 ⟨rfl, hB4⟩; obtain ⟨y10, y11, y12, y13, y14, y15⟩ := unhide HCL w4 hB4))
      go_ret
      exact ⟨ret_b (unhide HF).symm, (unhide HCL w4 hB4).1⟩
  | false =>
    have H1 := hide h1
    rw [h1] at HC1
    clear h1
    have HF : Hid (kidR 52 l n = false) := by show kidR 52 l n = _; simp [kidR, funcR, unhide HNK, unhide H1]
    go_enter Tryz.func79, Tryz.ntmps79
    go_wp2_with (first | (go_at_call 109; refine (unhide HC1).mono ?_; rintro e w3 ⟨rfl, hB3⟩; obtain ⟨y00, y01, y02, y03, y04, y05⟩ := unhide HCL w3 hB3))
    go_ret
    exact ⟨ret_b (unhide HF).symm, (unhide HCL w3 hB3).1⟩
set_option maxRecDepth 100000 in
set_option maxHeartbeats 2000000 in
theorem arm_67 (W : World) (M : Nat) (v : Value) (l : List Nd) (n : Nat) (hN : Nodes W M v l) (hM : M ≤ W.heap.size) (hn : n < l.length) (hk : (nd l n).kind = 67) :
    Calls Tryz.prog 79 #[.agg #[v], .int .i64 (n : Int)] W fun e w' => e = .returned (.bool (kidR 67 l n)) ∧ Below W.heap.size W w' := by
  obtain ⟨bb, o, cap, ka, kc, W1, W2, rfl, hW1, hW2, hc1, hc2, hl1, hkl, HKA, hkc, hkm, ⟨c0, d0, d1, d2, d3, d4, s1, s2⟩, HCL, HREF, HB0⟩ := arm_start W M v l n hN hM hn
  obtain ⟨z0, z1, z2, z3, z4, z5⟩ := unhide HCL W2 (unhide HB0)
  have HZ0 := hide z0
  rw [hk] at hW2 d0 z2 HCL
  have hlt : (n : Int) < l.length := by omega
  have hn0 : (0 : Int) ≤ (n : Int) := by omega
  obtain ⟨nk, hnk⟩ : ∃ nk, (nd l n).kids.length = nk := ⟨_, rfl⟩
  have HNK := hide hnk
  rw [hnk] at hW2 d3 z3 HCL hkl hkc
  clear hN hk hnk z0
  have hBB := unhide HB0
  by_cases h1 : nk = 0
  case pos =>
    have g1_h1 : (nk : Int) = 0 := by omega
    have H1 := hide h1
    clear h1
    have HF : Hid (kidR 67 l n = true) := by show kidR 67 l n = _; simp [kidR, funcR, unhide HNK, unhide H1]
    go_enter Tryz.func79, Tryz.ntmps79
    go_wp2
    go_ret
    exact ⟨ret_b (unhide HF).symm, unhide HZ0⟩
  case neg =>
    have g1_h1 : ¬ (nk : Int) = 0 := by omega
    have gb1_h1 : ((nk : Int) == 0) = false := by simpa using g1_h1
    have H1 := hide h1
    clear h1
    have HF : Hid (kidR 67 l n = false) := by show kidR 67 l n = _; simp [kidR, funcR, unhide HNK, unhide H1]
    go_enter Tryz.func79, Tryz.ntmps79
    go_wp2
    go_ret
    exact ⟨ret_b (unhide HF).symm, unhide HZ0⟩
set_option maxRecDepth 100000 in
set_option maxHeartbeats 2000000 in
theorem arm_50 (W : World) (M : Nat) (v : Value) (l : List Nd) (n : Nat) (hN : Nodes W M v l) (hM : M ≤ W.heap.size) (hn : n < l.length) (hk : (nd l n).kind = 50) :
    Calls Tryz.prog 79 #[.agg #[v], .int .i64 (n : Int)] W fun e w' => e = .returned (.bool (kidR 50 l n)) ∧ Below W.heap.size W w' := by
  obtain ⟨bb, o, cap, ka, kc, W1, W2, rfl, hW1, hW2, hc1, hc2, hl1, hkl, HKA, hkc, hkm, ⟨c0, d0, d1, d2, d3, d4, s1, s2⟩, HCL, HREF, HB0⟩ := arm_start W M v l n hN hM hn
  obtain ⟨z0, z1, z2, z3, z4, z5⟩ := unhide HCL W2 (unhide HB0)
  have HZ0 := hide z0
  rw [hk] at hW2 d0 z2 HCL
  have hlt : (n : Int) < l.length := by omega
  have hn0 : (0 : Int) ≤ (n : Int) := by omega
  obtain ⟨nk, hnk⟩ : ∃ nk, (nd l n).kids.length = nk := ⟨_, rfl⟩
  have HNK := hide hnk
  obtain ⟨x0, hx0⟩ : ∃ x, kidN l n 0 = x := ⟨_, rfl⟩
  have HKD0 : Hid (∀ w, Below W2.heap.size W2 w → Calls Tryz.prog 111 #[.agg #[.slice (some ⟨bb, o, none⟩) l.length cap], .int .i64 (n : Int), .int .i64 0] w fun e w' => ∃ a c, e = .returned (ndV x0 a c) ∧ KidsAt w' M a x0.kids ∧ x0.kids.length ≤ c ∧ c ≤ maxLen ∧ Below W2.heap.size W2 w') := fun w hw => by rw [← hx0]; exact (unhide HREF).kid w hw 0 (by decide)
  have HX0 := hide hx0
  clear hx0
  rw [hnk] at hW2 d3 z3 HCL hkl hkc
  clear hN hk hnk z0
  have hBB := unhide HB0
  by_cases h1 : nk = 1
  case pos =>
    have g1_h1 : (nk : Int) = 1 := by omega
    have H1 := hide h1
    clear h1
    have HC3 : Hid (∀ w, Below W2.heap.size W2 w → ∀ a c, Calls Tryz.prog 115 #[.agg #[.int .i64 x0.kind, .string x0.text, .int .i64 x0.num, .slice a x0.kids.length c, .int .i64 x0.at']] w fun e w' => e = .returned (.bool (exptR x0)) ∧ Below W2.heap.size W2 w') := fun w hw a c => (exported_any x0 a c w).mono fun e w' h => ⟨h.1, hw.trans (h.2.mono hw.size)⟩
    cases h3 : exptR x0 with
    | true =>
      have H3 := hide h3
      rw [h3] at HC3
      clear h3
      have HF : Hid (kidR 50 l n = true) := by show kidR 50 l n = _; simp [kidR, funcR, unhide HNK, unhide HX0, unhide H1, unhide H3]
      go_enter Tryz.func79, Tryz.ntmps79
      go_wp2_with (first | (go_at_call_of 111 (0 : Int); refine (unhide HKD0 _ (by assumption)).mono ?_; rintro e w3 ⟨a03, c03, he3, _, _, _, hB3⟩; simp only [ndV] at he3; subst he3; obtain ⟨y00, y01, y02, y03, y04, y05⟩ := unhide HCL w3 hB3) | (go_at_call 115; refine (unhide HC3 _ (by assumption) _ _).mono ?_; rintro e w4 ⟨rfl, hB4⟩; obtain ⟨y10, y11, y12, y13, y14, y15⟩ := unhide HCL w4 hB4))
      go_ret
      exact ⟨ret_b (unhide HF).symm, (unhide HCL w4 hB4).1⟩
    | false =>
      have H3 := hide h3
      rw [h3] at HC3
      clear h3
      have HF : Hid (kidR 50 l n = false) := by show kidR 50 l n = _; simp [kidR, funcR, unhide HNK, unhide HX0, unhide H1, unhide H3]
      go_enter Tryz.func79, Tryz.ntmps79
      go_wp2_with (first | (go_at_call_of 111 (0 : Int); refine (unhide HKD0 _ (by assumption)).mono ?_; rintro e w3 ⟨a03, c03, he3, _, _, _, hB3⟩; simp only [ndV] at he3; subst he3; obtain ⟨y00, y01, y02, y03, y04, y05⟩ := unhide HCL w3 hB3) | (go_at_call 115; refine (unhide HC3 _ (by assumption) _ _).mono ?_; rintro e w4 ⟨rfl, hB4⟩; obtain ⟨y10, y11, y12, y13, y14, y15⟩ := unhide HCL w4 hB4))
      go_ret
      exact ⟨ret_b (unhide HF).symm, (unhide HCL w4 hB4).1⟩
  case neg =>
    have g3_h1 : ¬ (nk : Int) = 1 := by omega
    have gb3_h1 : ((nk : Int) == 1) = false := by simpa using g3_h1
    have H1 := hide h1
    clear h1
    have HF : Hid (kidR 50 l n = false) := by show kidR 50 l n = _; simp [kidR, funcR, unhide HNK, unhide HX0, unhide H1]
    go_enter Tryz.func79, Tryz.ntmps79
    go_wp2
    go_ret
    exact ⟨ret_b (unhide HF).symm, unhide HZ0⟩
end Go.Proofs.YtnnpkomedpjlcaaGreatDoor

/- The reference's Kind and numbered. -/
namespace Go.Proofs.YtnnpkomedpjlcaaGreatDoor
set_option linter.unusedSimpArgs false
set_option linter.unusedVariables false
open Go.RowKit

/-- Is there that kind? -/
def kdR (k : Int) : Bool := decide ((1 ≤ k ∧ k ≤ 3) ∨ (10 ≤ k ∧ k ≤ 34) ∨ (40 ≤ k ∧ k ≤ 67) ∨ (80 ≤ k ∧ k ≤ 87))
def nmR (k n : Int) : Bool :=
  if k = 10 then decide (0 ≤ n) && decide (n ≤ 9007199254740991) else if k = 81 then decide (-9007199254740991 ≤ n) && decide (n ≤ 9007199254740991) else if k = 40 ∨ k = 47 ∨ k = 56 ∨ k = 85 then n == 0 || n == 1 else if k = 44 then n == 0 || n == 4 else if k = 66 then decide (0 ≤ n) && decide (n ≤ 7) else n == 0

set_option maxRecDepth 100000 in
set_option maxHeartbeats 2000000 in
theorem rKind_any (k : Int) (W : World) : Calls Tryz.prog 74 #[.int .i64 k] W fun e w' => e = .returned (.bool (kdR k)) ∧ w' = W := by
  have hc : (k < 1) ∨ (1 ≤ k ∧ k ≤ 3) ∨ (3 < k ∧ k < 10) ∨ (10 ≤ k ∧ k ≤ 34) ∨ (34 < k ∧ k < 40) ∨ (40 ≤ k ∧ k ≤ 67) ∨ (67 < k ∧ k < 80) ∨ (80 ≤ k ∧ k ≤ 87) ∨ (87 < k) := by omega
  rcases hc with h | h | h | h | h | h | h | h | h
  · have HF : Hid (kdR k = false) := by show kdR k = _; simp only [kdR, decide_eq_true_eq, decide_eq_false_iff_not]; omega
    have a1 : decide (1 ≤ k) = false := by simp; omega
    have a10 : decide (10 ≤ k) = false := by simp; omega
    have a40 : decide (40 ≤ k) = false := by simp; omega
    have a80 : decide (80 ≤ k) = false := by simp; omega
    have a3 : decide (k ≤ 3) = true := by simp; omega
    have a34 : decide (k ≤ 34) = true := by simp; omega
    have a67 : decide (k ≤ 67) = true := by simp; omega
    have a87 : decide (k ≤ 87) = true := by simp; omega
    clear h
    go_enter Tryz.func74, Tryz.ntmps74
    go_wp2
    go_ret
    exact ⟨ret_b (by rw [unhide HF]), rfl⟩
  · have HF : Hid (kdR k = true) := by show kdR k = _; simp only [kdR, decide_eq_true_eq, decide_eq_false_iff_not]; omega
    have a1 : decide (1 ≤ k) = true := by simp; omega
    have a10 : decide (10 ≤ k) = false := by simp; omega
    have a40 : decide (40 ≤ k) = false := by simp; omega
    have a80 : decide (80 ≤ k) = false := by simp; omega
    have a3 : decide (k ≤ 3) = true := by simp; omega
    have a34 : decide (k ≤ 34) = true := by simp; omega
    have a67 : decide (k ≤ 67) = true := by simp; omega
    have a87 : decide (k ≤ 87) = true := by simp; omega
    clear h
    go_enter Tryz.func74, Tryz.ntmps74
    go_wp2
    go_ret
    exact ⟨ret_b (by rw [unhide HF]), rfl⟩
  · have HF : Hid (kdR k = false) := by show kdR k = _; simp only [kdR, decide_eq_true_eq, decide_eq_false_iff_not]; omega
    have a1 : decide (1 ≤ k) = true := by simp; omega
    have a10 : decide (10 ≤ k) = false := by simp; omega
    have a40 : decide (40 ≤ k) = false := by simp; omega
    have a80 : decide (80 ≤ k) = false := by simp; omega
    have a3 : decide (k ≤ 3) = false := by simp; omega
    have a34 : decide (k ≤ 34) = true := by simp; omega
    have a67 : decide (k ≤ 67) = true := by simp; omega
    have a87 : decide (k ≤ 87) = true := by simp; omega
    clear h
    go_enter Tryz.func74, Tryz.ntmps74
    go_wp2
    go_ret
    exact ⟨ret_b (by rw [unhide HF]), rfl⟩
  · have HF : Hid (kdR k = true) := by show kdR k = _; simp only [kdR, decide_eq_true_eq, decide_eq_false_iff_not]; omega
    have a1 : decide (1 ≤ k) = true := by simp; omega
    have a10 : decide (10 ≤ k) = true := by simp; omega
    have a40 : decide (40 ≤ k) = false := by simp; omega
    have a80 : decide (80 ≤ k) = false := by simp; omega
    have a3 : decide (k ≤ 3) = false := by simp; omega
    have a34 : decide (k ≤ 34) = true := by simp; omega
    have a67 : decide (k ≤ 67) = true := by simp; omega
    have a87 : decide (k ≤ 87) = true := by simp; omega
    clear h
    go_enter Tryz.func74, Tryz.ntmps74
    go_wp2
    go_ret
    exact ⟨ret_b (by rw [unhide HF]), rfl⟩
  · have HF : Hid (kdR k = false) := by show kdR k = _; simp only [kdR, decide_eq_true_eq, decide_eq_false_iff_not]; omega
    have a1 : decide (1 ≤ k) = true := by simp; omega
    have a10 : decide (10 ≤ k) = true := by simp; omega
    have a40 : decide (40 ≤ k) = false := by simp; omega
    have a80 : decide (80 ≤ k) = false := by simp; omega
    have a3 : decide (k ≤ 3) = false := by simp; omega
    have a34 : decide (k ≤ 34) = false := by simp; omega
    have a67 : decide (k ≤ 67) = true := by simp; omega
    have a87 : decide (k ≤ 87) = true := by simp; omega
    clear h
    go_enter Tryz.func74, Tryz.ntmps74
    go_wp2
    go_ret
    exact ⟨ret_b (by rw [unhide HF]), rfl⟩
  · have HF : Hid (kdR k = true) := by show kdR k = _; simp only [kdR, decide_eq_true_eq, decide_eq_false_iff_not]; omega
    have a1 : decide (1 ≤ k) = true := by simp; omega
    have a10 : decide (10 ≤ k) = true := by simp; omega
    have a40 : decide (40 ≤ k) = true := by simp; omega
    have a80 : decide (80 ≤ k) = false := by simp; omega
    have a3 : decide (k ≤ 3) = false := by simp; omega
    have a34 : decide (k ≤ 34) = false := by simp; omega
    have a67 : decide (k ≤ 67) = true := by simp; omega
    have a87 : decide (k ≤ 87) = true := by simp; omega
    clear h
    go_enter Tryz.func74, Tryz.ntmps74
    go_wp2
    go_ret
    exact ⟨ret_b (by rw [unhide HF]), rfl⟩
  · have HF : Hid (kdR k = false) := by show kdR k = _; simp only [kdR, decide_eq_true_eq, decide_eq_false_iff_not]; omega
    have a1 : decide (1 ≤ k) = true := by simp; omega
    have a10 : decide (10 ≤ k) = true := by simp; omega
    have a40 : decide (40 ≤ k) = true := by simp; omega
    have a80 : decide (80 ≤ k) = false := by simp; omega
    have a3 : decide (k ≤ 3) = false := by simp; omega
    have a34 : decide (k ≤ 34) = false := by simp; omega
    have a67 : decide (k ≤ 67) = false := by simp; omega
    have a87 : decide (k ≤ 87) = true := by simp; omega
    clear h
    go_enter Tryz.func74, Tryz.ntmps74
    go_wp2
    go_ret
    exact ⟨ret_b (by rw [unhide HF]), rfl⟩
  · have HF : Hid (kdR k = true) := by show kdR k = _; simp only [kdR, decide_eq_true_eq, decide_eq_false_iff_not]; omega
    have a1 : decide (1 ≤ k) = true := by simp; omega
    have a10 : decide (10 ≤ k) = true := by simp; omega
    have a40 : decide (40 ≤ k) = true := by simp; omega
    have a80 : decide (80 ≤ k) = true := by simp; omega
    have a3 : decide (k ≤ 3) = false := by simp; omega
    have a34 : decide (k ≤ 34) = false := by simp; omega
    have a67 : decide (k ≤ 67) = false := by simp; omega
    have a87 : decide (k ≤ 87) = true := by simp; omega
    clear h
    go_enter Tryz.func74, Tryz.ntmps74
    go_wp2
    go_ret
    exact ⟨ret_b (by rw [unhide HF]), rfl⟩
  · have HF : Hid (kdR k = false) := by show kdR k = _; simp only [kdR, decide_eq_true_eq, decide_eq_false_iff_not]; omega
    have a1 : decide (1 ≤ k) = true := by simp; omega
    have a10 : decide (10 ≤ k) = true := by simp; omega
    have a40 : decide (40 ≤ k) = true := by simp; omega
    have a80 : decide (80 ≤ k) = true := by simp; omega
    have a3 : decide (k ≤ 3) = false := by simp; omega
    have a34 : decide (k ≤ 34) = false := by simp; omega
    have a67 : decide (k ≤ 67) = false := by simp; omega
    have a87 : decide (k ≤ 87) = false := by simp; omega
    clear h
    go_enter Tryz.func74, Tryz.ntmps74
    go_wp2
    go_ret
    exact ⟨ret_b (by rw [unhide HF]), rfl⟩

set_option maxRecDepth 100000 in
set_option maxHeartbeats 2000000 in
theorem numbered_any (x : Nd) (a : Option Addr) (c : Nat) (W : World) : Calls Tryz.prog 76 #[.agg #[.int .i64 x.kind, .string x.text, .int .i64 x.num, .slice a x.kids.length c, .int .i64 x.at']] W fun e w' => e = .returned (.bool (nmR x.kind x.num)) ∧ Below W.heap.size W w' := by
  obtain ⟨kd, tx, nm, ks, at'⟩ := x
  simp only
  have hB1 : Below W.heap.size W (W.alloc (.cells #[.int .i64 kd, .string tx, .int .i64 nm, .slice a ks.length c, .int .i64 at'] 41)) := (Below.refl _ W).alloc (Nat.le_refl _) _
  by_cases h0 : kd ∈ ([10, 81, 66] : List Int)
  · simp only [List.mem_cons, List.not_mem_nil, or_false] at h0
    rcases h0 with rfl | rfl | rfl
    · cases e1 : decide (0 ≤ nm) with
      | false =>
        have HF : Hid (nmR 10 nm = false) := by show nmR 10 nm = _; simp [nmR] at e1 ⊢; omega
        go_enter Tryz.func76, Tryz.ntmps76
        go_wp2
        go_ret
        exact ⟨ret_b (by rw [unhide HF]), hB1⟩
      | true =>
        cases e2 : decide (nm ≤ 9007199254740991) with
        | false =>
          have HF : Hid (nmR 10 nm = false) := by show nmR 10 nm = _; simp [nmR] at e1 e2 ⊢; omega
          go_enter Tryz.func76, Tryz.ntmps76
          go_wp2
          go_ret
          exact ⟨ret_b (by rw [unhide HF]), hB1⟩
        | true =>
          have HF : Hid (nmR 10 nm = true) := by show nmR 10 nm = _; simp [nmR] at e1 e2 ⊢; omega
          go_enter Tryz.func76, Tryz.ntmps76
          go_wp2
          go_ret
          exact ⟨ret_b (by rw [unhide HF]), hB1⟩
    · cases e1 : decide (-9007199254740991 ≤ nm) with
      | false =>
        have HF : Hid (nmR 81 nm = false) := by show nmR 81 nm = _; simp [nmR] at e1 ⊢; omega
        go_enter Tryz.func76, Tryz.ntmps76
        go_wp2
        go_ret
        exact ⟨ret_b (by rw [unhide HF]), hB1⟩
      | true =>
        cases e2 : decide (nm ≤ 9007199254740991) with
        | false =>
          have HF : Hid (nmR 81 nm = false) := by show nmR 81 nm = _; simp [nmR] at e1 e2 ⊢; omega
          go_enter Tryz.func76, Tryz.ntmps76
          go_wp2
          go_ret
          exact ⟨ret_b (by rw [unhide HF]), hB1⟩
        | true =>
          have HF : Hid (nmR 81 nm = true) := by show nmR 81 nm = _; simp [nmR] at e1 e2 ⊢; omega
          go_enter Tryz.func76, Tryz.ntmps76
          go_wp2
          go_ret
          exact ⟨ret_b (by rw [unhide HF]), hB1⟩
    · cases e1 : decide (0 ≤ nm) with
      | false =>
        have HF : Hid (nmR 66 nm = false) := by show nmR 66 nm = _; simp [nmR] at e1 ⊢; omega
        go_enter Tryz.func76, Tryz.ntmps76
        go_wp2
        go_ret
        exact ⟨ret_b (by rw [unhide HF]), hB1⟩
      | true =>
        cases e2 : decide (nm ≤ 7) with
        | false =>
          have HF : Hid (nmR 66 nm = false) := by show nmR 66 nm = _; simp [nmR] at e1 e2 ⊢; omega
          go_enter Tryz.func76, Tryz.ntmps76
          go_wp2
          go_ret
          exact ⟨ret_b (by rw [unhide HF]), hB1⟩
        | true =>
          have HF : Hid (nmR 66 nm = true) := by show nmR 66 nm = _; simp [nmR] at e1 e2 ⊢; omega
          go_enter Tryz.func76, Tryz.ntmps76
          go_wp2
          go_ret
          exact ⟨ret_b (by rw [unhide HF]), hB1⟩
  by_cases h1 : kd ∈ ([40, 47, 56, 85, 44] : List Int)
  · simp only [List.mem_cons, List.not_mem_nil, or_false] at h1
    clear h0
    rcases h1 with rfl | rfl | rfl | rfl | rfl
    · cases e1 : (nm == 0) with
      | true =>
        have HF : Hid (nmR 40 nm = true) := by show nmR 40 nm = _; simp [nmR] at e1 ⊢; omega
        go_enter Tryz.func76, Tryz.ntmps76
        go_wp2
        go_ret
        exact ⟨ret_b (by rw [unhide HF]), hB1⟩
      | false =>
        cases e2 : (nm == 1) with
        | false =>
          have HF : Hid (nmR 40 nm = false) := by show nmR 40 nm = _; simp [nmR] at e1 e2 ⊢; omega
          go_enter Tryz.func76, Tryz.ntmps76
          go_wp2
          go_ret
          exact ⟨ret_b (by rw [unhide HF]), hB1⟩
        | true =>
          have HF : Hid (nmR 40 nm = true) := by show nmR 40 nm = _; simp [nmR] at e1 e2 ⊢; omega
          go_enter Tryz.func76, Tryz.ntmps76
          go_wp2
          go_ret
          exact ⟨ret_b (by rw [unhide HF]), hB1⟩
    · cases e1 : (nm == 0) with
      | true =>
        have HF : Hid (nmR 47 nm = true) := by show nmR 47 nm = _; simp [nmR] at e1 ⊢; omega
        go_enter Tryz.func76, Tryz.ntmps76
        go_wp2
        go_ret
        exact ⟨ret_b (by rw [unhide HF]), hB1⟩
      | false =>
        cases e2 : (nm == 1) with
        | false =>
          have HF : Hid (nmR 47 nm = false) := by show nmR 47 nm = _; simp [nmR] at e1 e2 ⊢; omega
          go_enter Tryz.func76, Tryz.ntmps76
          go_wp2
          go_ret
          exact ⟨ret_b (by rw [unhide HF]), hB1⟩
        | true =>
          have HF : Hid (nmR 47 nm = true) := by show nmR 47 nm = _; simp [nmR] at e1 e2 ⊢; omega
          go_enter Tryz.func76, Tryz.ntmps76
          go_wp2
          go_ret
          exact ⟨ret_b (by rw [unhide HF]), hB1⟩
    · cases e1 : (nm == 0) with
      | true =>
        have HF : Hid (nmR 56 nm = true) := by show nmR 56 nm = _; simp [nmR] at e1 ⊢; omega
        go_enter Tryz.func76, Tryz.ntmps76
        go_wp2
        go_ret
        exact ⟨ret_b (by rw [unhide HF]), hB1⟩
      | false =>
        cases e2 : (nm == 1) with
        | false =>
          have HF : Hid (nmR 56 nm = false) := by show nmR 56 nm = _; simp [nmR] at e1 e2 ⊢; omega
          go_enter Tryz.func76, Tryz.ntmps76
          go_wp2
          go_ret
          exact ⟨ret_b (by rw [unhide HF]), hB1⟩
        | true =>
          have HF : Hid (nmR 56 nm = true) := by show nmR 56 nm = _; simp [nmR] at e1 e2 ⊢; omega
          go_enter Tryz.func76, Tryz.ntmps76
          go_wp2
          go_ret
          exact ⟨ret_b (by rw [unhide HF]), hB1⟩
    · cases e1 : (nm == 0) with
      | true =>
        have HF : Hid (nmR 85 nm = true) := by show nmR 85 nm = _; simp [nmR] at e1 ⊢; omega
        go_enter Tryz.func76, Tryz.ntmps76
        go_wp2
        go_ret
        exact ⟨ret_b (by rw [unhide HF]), hB1⟩
      | false =>
        cases e2 : (nm == 1) with
        | false =>
          have HF : Hid (nmR 85 nm = false) := by show nmR 85 nm = _; simp [nmR] at e1 e2 ⊢; omega
          go_enter Tryz.func76, Tryz.ntmps76
          go_wp2
          go_ret
          exact ⟨ret_b (by rw [unhide HF]), hB1⟩
        | true =>
          have HF : Hid (nmR 85 nm = true) := by show nmR 85 nm = _; simp [nmR] at e1 e2 ⊢; omega
          go_enter Tryz.func76, Tryz.ntmps76
          go_wp2
          go_ret
          exact ⟨ret_b (by rw [unhide HF]), hB1⟩
    · cases e1 : (nm == 0) with
      | true =>
        have HF : Hid (nmR 44 nm = true) := by show nmR 44 nm = _; simp [nmR] at e1 ⊢; omega
        go_enter Tryz.func76, Tryz.ntmps76
        go_wp2
        go_ret
        exact ⟨ret_b (by rw [unhide HF]), hB1⟩
      | false =>
        cases e2 : (nm == 4) with
        | false =>
          have HF : Hid (nmR 44 nm = false) := by show nmR 44 nm = _; simp [nmR] at e1 e2 ⊢; omega
          go_enter Tryz.func76, Tryz.ntmps76
          go_wp2
          go_ret
          exact ⟨ret_b (by rw [unhide HF]), hB1⟩
        | true =>
          have HF : Hid (nmR 44 nm = true) := by show nmR 44 nm = _; simp [nmR] at e1 e2 ⊢; omega
          go_enter Tryz.func76, Tryz.ntmps76
          go_wp2
          go_ret
          exact ⟨ret_b (by rw [unhide HF]), hB1⟩
  · simp only [List.mem_cons, List.not_mem_nil, or_false, not_or] at h0 h1
    have HF : Hid (nmR kd nm = (nm == 0)) := by show nmR kd nm = _; simp [nmR, h0, h1]
    obtain ⟨q0, q1, q2⟩ := h0
    obtain ⟨q3, q4, q5, q6, q7⟩ := h1
    have e0 : (kd == 10) = false := by simpa using q0
    have e1 : (kd == 81) = false := by simpa using q1
    have e2 : (kd == 66) = false := by simpa using q2
    have e3 : (kd == 40) = false := by simpa using q3
    have e4 : (kd == 47) = false := by simpa using q4
    have e5 : (kd == 56) = false := by simpa using q5
    have e6 : (kd == 85) = false := by simpa using q6
    have e7 : (kd == 44) = false := by simpa using q7
    clear q0 q1 q2 q3 q4 q5 q6 q7
    go_enter Tryz.func76, Tryz.ntmps76
    go_wp2
    go_ret
    exact ⟨ret_b (unhide HF).symm, hB1⟩
end Go.Proofs.YtnnpkomedpjlcaaGreatDoor

/- The reference's among, words, Reserved, IsName. -/
namespace Go.Proofs.YtnnpkomedpjlcaaGreatDoor
set_option linter.unusedSimpArgs false
set_option linter.unusedVariables false
open Go.RowKit

/-- Texts in a row. -/
def Txts (W : World) (b off : Nat) (l : List ByteArray) : Prop := ∀ (j : Nat) (s : ByteArray), l[j]? = some s → W.cell? ⟨b, off + j, none⟩ = some (.string s)
theorem Txts.keep {W W' : World} {b off N : Nat} {l : List ByteArray} (h : Txts W b off l) (hB : Below N W W') (hb : b < N) : Txts W' b off l := fun j s hj => (hB.cell (p := ⟨b, off + j, none⟩) hb).trans (h j s hj)
theorem rhasT_yes {l : List ByteArray} {v s : ByteArray} {k : Nat} (h : l[k]? = some s) (he : (v.toList == s.toList) = true) : hasT l v = true := by
  simp only [hasT, List.any_eq_true]
  exact ⟨s, List.mem_of_getElem? h, he⟩
theorem rhasT_no {l : List ByteArray} {v : ByteArray} (h : ∀ (j : Nat) (s : ByteArray), l[j]? = some s → (v.toList == s.toList) = false) : hasT l v = false := by
  simp only [hasT, List.any_eq_false]
  intro s hs
  obtain ⟨j, hj⟩ := List.getElem?_of_mem hs
  rw [h j s hj]; simp

set_option maxRecDepth 100000 in
set_option maxHeartbeats 1000000 in
theorem words_any (w : World) : Calls Tryz.prog 154 #[] w fun e w' => e = .returned (.slice (some ⟨w.heap.size, 0, none⟩) 36 36) ∧ Txts w' w.heap.size 0 wordL ∧ Below w.heap.size w w' ∧ w.heap.size < w'.heap.size := by
  go_enter Tryz.func154, Tryz.ntmps154
  go_wp2
  go_ret
  refine ⟨rfl, fun j s hj => ?_, (Below.refl _ w).alloc (Nat.le_refl _) _, by simp⟩
  rw [Lib.cell_of_heap (World.alloc_heap_new w _), Nat.zero_add]
  show ((wordL.map Value.string).toArray)[j]? = some (.string s)
  simp [hj]

set_option maxRecDepth 100000 in
set_option maxHeartbeats 1000000 in
theorem reserved_any (v : ByteArray) (w : World) : Calls Tryz.prog 143 #[.string v] w fun e w' => e = .returned (.bool (hasT wordL v)) ∧ Below w.heap.size w w' := by
  go_enter Tryz.func143, Tryz.ntmps143
  go_wp2_with (go_at_call 154; refine (words_any _).mono ?_; rintro e W ⟨rfl, hT, hB, hbW⟩)
  have HT := hide hT
  have hwl : wordL.length = 36 := rfl
  have HWL := hide hwl
  clear hT hwl
  go_loopw [4] (fun t wr => ∃ k : Nat, k ≤ 36 ∧ t = .int .i64 (k : Int) ∧ (∀ (j : Nat) (s : ByteArray), j < k → wordL[j]? = some s → (v.toList == s.toList) = false) ∧ wr = W) (fun t _ => 36 - (intOf t).toNat)
  case atStart => exact ⟨0, Nat.zero_le _, rfl, fun j s h => by omega, rfl⟩
  case round =>
    obtain ⟨k, hk, rfl, hno, hw⟩ := hrel
    subst wr
    have HNO := hide hno
    clear hno
    by_cases hlt : k < 36
    · have hlt' : (k : Int) < 36 := by omega
      obtain ⟨s, hs⟩ : ∃ s, wordL[k]? = some s := ⟨_, List.getElem?_eq_getElem (by rw [unhide HWL]; exact hlt)⟩
      have hcell := unhide HT k s hs
      rw [Nat.zero_add] at hcell
      have HS := hide hs
      clear hs
      cases he : (v.toList == s.toList) with
      | true =>
        have he' : (s.toList == v.toList) = true := by rw [BEq.comm]; exact he
        have HE := hide he
        clear he
        go_wp2
        go_ret
        exact ⟨ret_b (rhasT_yes (unhide HS) (unhide HE)).symm, hB⟩
      | false =>
        have he' : (s.toList == v.toList) = false := by rw [BEq.comm]; exact he
        have HE := hide he
        clear he
        go_wp2
        refine ⟨⟨k + 1, by omega, by go_num, fun j s' hj hs' => ?_, trivial⟩, by simp [intOf]; omega⟩
        by_cases hjk : j = k
        · subst hjk
          have := hs'.symm.trans (unhide HS)
          cases this
          exact unhide HE
        · exact unhide HNO j s' (by omega) hs'
    · have hlt' : ¬ (k : Int) < 36 := by omega
      obtain rfl : k = 36 := by omega
      go_wp2
      go_ret
      refine ⟨?_, hB⟩
      exact ret_b (rhasT_no (fun j s hj => unhide HNO j s (by have := (List.getElem?_eq_some_iff.1 hj).1; rw [unhide HWL] at this; exact this) hj)).symm

set_option maxRecDepth 100000 in
set_option maxHeartbeats 1000000 in
theorem among_any (v : ByteArray) (l : List ByteArray) (b n c : Nat) (W : World) (hT : Txts W b 0 l) (hb : b < W.heap.size) (hn : l.length = n) (hn2 : n ≤ 100) (hc : n ≤ c) : Calls Tryz.prog 106 #[.string v, .slice (some ⟨b, 0, none⟩) n c] W fun e w' => e = .returned (.bool (hasT l v)) ∧ w' = W := by
  have HT := hide hT
  have HN := hide hn
  clear hT hn
  go_enter Tryz.func106, Tryz.ntmps106
  go_wp2
  go_loopw [5] (fun t wr => ∃ k : Nat, k ≤ n ∧ t = .int .i64 (k : Int) ∧ (∀ (j : Nat) (s : ByteArray), j < k → l[j]? = some s → (v.toList == s.toList) = false) ∧ wr = W) (fun t _ => n - (intOf t).toNat)
  case atStart => exact ⟨0, Nat.zero_le _, rfl, fun j s h => by omega, rfl⟩
  case round =>
    obtain ⟨k, hk, rfl, hno, hw⟩ := hrel
    subst wr
    have HNO := hide hno
    clear hno
    by_cases hlt : k < n
    · have hlt' : (k : Int) < n := by omega
      have hk0 : (0 : Int) ≤ (k : Int) := by omega
      obtain ⟨s, hs⟩ : ∃ s, l[k]? = some s := ⟨_, List.getElem?_eq_getElem (by rw [unhide HN]; exact hlt)⟩
      have hcell := unhide HT k s hs
      rw [Nat.zero_add] at hcell
      have HS := hide hs
      clear hs
      cases he : (v.toList == s.toList) with
      | true =>
        have he' : (s.toList == v.toList) = true := by rw [BEq.comm]; exact he
        have HE := hide he
        clear he
        go_wp2
        go_ret
        exact ⟨ret_b (rhasT_yes (unhide HS) (unhide HE)).symm, rfl⟩
      | false =>
        have he' : (s.toList == v.toList) = false := by rw [BEq.comm]; exact he
        have HE := hide he
        clear he
        go_wp2
        refine ⟨⟨k + 1, by omega, by go_num, fun j s' hj hs' => ?_, trivial⟩, by simp [intOf]; omega⟩
        by_cases hjk : j = k
        · subst hjk
          have := hs'.symm.trans (unhide HS)
          cases this
          exact unhide HE
        · exact unhide HNO j s' (by omega) hs'
    · have hlt' : ¬ (k : Int) < n := by omega
      obtain rfl : k = n := by omega
      go_wp2
      go_ret
      refine ⟨?_, rfl⟩
      exact ret_b (rhasT_no (fun j s hj => unhide HNO j s (by have := (List.getElem?_eq_some_iff.1 hj).1; rw [unhide HN] at this; exact this) hj)).symm

theorem rempty (s : ByteArray) : s.toList.isEmpty = (s.size == 0) := by
  rw [ba_toList]
  obtain ⟨⟨l⟩⟩ := s
  cases l <;> simp [ByteArray.size]
set_option maxRecDepth 100000 in
set_option maxHeartbeats 2000000 in
theorem isName_any (s : ByteArray) (hs : s.size ≤ 140737488355328) (W : World) : Calls Tryz.prog 105 #[.string s] W fun e w' => e = .returned (.bool (nameB s)) ∧ Below W.heap.size W w' := by
  by_cases h0 : s.size = 0
  · have hl : s.toList.isEmpty = true := by rw [rempty, h0]; rfl
    have HF : Hid (nameB s = false) := by show nameB s = false; simp [nameB, h0]
    clear h0
    go_enter Tryz.func105, Tryz.ntmps105
    go_wp2
    go_ret
    exact ⟨ret_b (unhide HF).symm, Below.refl _ _⟩
  have hl : s.toList.isEmpty = false := by rw [rempty]; simpa using h0
  have HX := hide (idx_str s 0 (by omega) W)
  have HXA : Hid (∀ i, i < s.size → ∀ w, (Instr.index 9 (.string s) (.int .i64 (i : Int))).run Tryz.prog w = .ok (.int .u8 (gS s i)) w) := fun i hi w => idx_str s i hi w
  have hx0 : ∀ w, (Instr.index 9 (.string s) (.int .i64 0)).run Tryz.prog w = .ok (.int .u8 (gS s 0)) w := fun w => idx_str s 0 (by omega) w
  cases h1 : isL (gS s 0) with
  | false =>
    have HF : Hid (nameB s = false) := by show nameB s = false; have h5 : chN s s.size = false := chN_false (i := 0) (by omega) (by rw [h1]; rfl); simp [nameB, h5]
    have HL := hide (rLetter_any (gS s 0) W)
    rw [h1] at HL
    clear h0 h1
    go_enter Tryz.func105, Tryz.ntmps105
    go_wp2_with (go_at_call 142; refine (unhide HL).mono ?_; rintro e w2 ⟨rfl, rfl⟩)
    go_ret
    exact ⟨ret_b (unhide HF).symm, Below.refl _ _⟩
  | true =>
    have HL := hide (rLetter_any (gS s 0) W)
    rw [h1] at HL
    have HRS := hide (reserved_any s W)
    cases h2 : hasT wordL s with
    | true =>
      have HF : Hid (nameB s = false) := by show nameB s = false; simp [nameB, h2]
      rw [h2] at HRS
      clear h0 h1 h2
      go_enter Tryz.func105, Tryz.ntmps105
      go_wp2_with (first | (go_at_call 142; refine (unhide HL).mono ?_; rintro e w2 ⟨rfl, rfl⟩) | (go_at_call 143; refine (unhide HRS).mono ?_; rintro e w3 ⟨rfl, hB3⟩))
      go_ret
      exact ⟨ret_b (unhide HF).symm, hB3⟩
    | false =>
      have HN : Hid (nameB s = chN s s.size) := by show nameB s = _; simp [nameB, h2, h0]
      have HC1 : Hid (chN s 1 = true) := by show (true && (isL (gS s 0) || _)) = true; rw [h1]; rfl
      have h01 : 1 ≤ s.size := by omega
      rw [h2] at HRS
      clear h0 h1 h2
      go_enter Tryz.func105, Tryz.ntmps105
      go_wp2_with (first | (go_at_call 142; refine (unhide HL).mono ?_; rintro e w2 ⟨rfl, rfl⟩) | (go_at_call 143; refine (unhide HRS).mono ?_; rintro e w3 ⟨rfl, hB3⟩))
      clear hx0
      go_loopw [3] (fun t wr => ∃ i : Nat, 1 ≤ i ∧ i ≤ s.size ∧ t = .int .i64 (i : Int) ∧ chN s i = true ∧ wr = w3) (fun t _ => s.size - (intOf t).toNat)
      case atStart => exact ⟨1, Nat.le_refl _, h01, rfl, unhide HC1, rfl⟩
      case round =>
        obtain ⟨i, hi1, hil, rfl, hu, hw⟩ := hrel
        subst wr
        have HU := hide hu
        clear hu
        by_cases hlt : i < s.size
        case neg =>
          have hlt' : ¬ (i : Int) < s.size := by omega
          obtain rfl : i = s.size := by omega
          go_wp2
          go_ret
          exact ⟨ret_b (by rw [unhide HN, unhide HU]), hB3⟩
        have hlt' : (i : Int) < s.size := by omega
        have hxi := unhide HXA i hlt
        have HS : Hid (chN s (i + 1) = (isL (gS s i) || isD (gS s i))) := by
          show (chN s i && (isL (gS s i) || (!(i == 0) && isD (gS s i)))) = _
          rw [unhide HU, show (i == 0) = false by simp; omega]; rfl
        obtain ⟨ch, hch⟩ : ∃ ch, gS s i = ch := ⟨_, rfl⟩
        rw [hch] at hxi HS
        have HL2 := hide (rLetter_any ch w3)
        have HD2 := hide (rDigit_any ch w3)
        clear hch
        cases h5 : isL ch with
        | true =>
          rw [h5] at HL2 HS
          clear h5
          go_wp2_with (go_at_call 142; refine (unhide HL2).mono ?_; rintro e w4 ⟨rfl, rfl⟩)
          exact ⟨⟨i + 1, by omega, by omega, by go_num, by rw [unhide HS]; rfl, trivial⟩, by simp [intOf]; omega⟩
        | false =>
          rw [h5] at HL2 HS
          clear h5
          cases h6 : isD ch with
          | true =>
            rw [h6] at HD2 HS
            clear h6
            go_wp2_with (first | (go_at_call 142; refine (unhide HL2).mono ?_; rintro e w4 ⟨rfl, rfl⟩) | (go_at_call 144; refine (unhide HD2).mono ?_; rintro e w5 ⟨rfl, rfl⟩))
            exact ⟨⟨i + 1, by omega, by omega, by go_num, by rw [unhide HS]; rfl, trivial⟩, by simp [intOf]; omega⟩
          | false =>
            rw [h6] at HD2 HS
            have HF : Hid (nameB s = false) := by show nameB s = false; rw [unhide HN]; exact chN_le (i := i + 1) (by rw [unhide HS]; rfl) (by omega)
            clear h6
            go_wp2_with (first | (go_at_call 142; refine (unhide HL2).mono ?_; rintro e w4 ⟨rfl, rfl⟩) | (go_at_call 144; refine (unhide HD2).mono ?_; rintro e w5 ⟨rfl, rfl⟩))
            go_ret
            exact ⟨ret_b (unhide HF).symm, hB3⟩
end Go.Proofs.YtnnpkomedpjlcaaGreatDoor

/- The reference's dotted: names with a dot between each two. -/
namespace Go.Proofs.YtnnpkomedpjlcaaGreatDoor
set_option linter.unusedSimpArgs false
set_option linter.unusedVariables false
open Go.RowKit

/-- Names with dots between, a piece having begun. -/
def dotL (part : ByteArray) : List UInt8 → Bool
  | [] => nameB part
  | c :: l => if c = 46 then nameB part && dotL ⟨#[]⟩ l else dotL (part ++ ⟨#[c]⟩) l
def dotR (s : ByteArray) : Bool := dotL ⟨#[]⟩ s.data.toList

theorem splitK_ne (b : UInt8) (l : List UInt8) (h : b ≠ 46) : Lib.splitK [46] 0 (Lib.count (b :: l) [46]) (b :: l) = match Lib.splitK [46] 0 (Lib.count l [46]) l with
    | [] => []
    | p :: ps => (b :: p) :: ps := by
  rw [Lib.count_cons_ne b 46 l h]
  have hp : ([46] : List UInt8).isPrefixOf (b :: l) = false := by simp [List.isPrefixOf, Ne.symm h]
  have hix : Lib.index (b :: l) [46] = if Lib.index l [46] == -1 then -1 else Lib.index l [46] + 1 := by rw [Lib.index, hp]; simp
  cases hc : Lib.count l [46] with
  | zero => rfl
  | succ k =>
    have hge := Lib.index_ge l [46]
    simp only [Lib.splitK]
    by_cases hm : Lib.index l [46] = -1
    · rw [hix, if_pos (beq_iff_eq.2 hm), if_pos (by rfl), if_pos (beq_iff_eq.2 hm)]
    · have hm' : ¬ (Lib.index l [46] == -1) = true := fun e => hm (beq_iff_eq.1 e)
      rw [hix, if_neg hm', if_neg (by simp; omega), if_neg hm']
      obtain ⟨j, hj⟩ : ∃ j : Nat, Lib.index l [46] = j := ⟨(Lib.index l [46]).toNat, by omega⟩
      rw [hj]
      have e1 : ((j : Int) + 1).toNat = j + 1 := by omega
      have e2 : (j : Int).toNat = j := by omega
      rw [e1, e2]
      simp
theorem splitK_eq (l : List UInt8) : Lib.splitK [46] 0 (Lib.count (46 :: l) [46]) (46 :: l) = [] :: Lib.splitK [46] 0 (Lib.count l [46]) l := by
  have hix : Lib.index (46 :: l) [46] = ((0 : Nat) : Int) := by rw [Lib.index]; simp [List.isPrefixOf]
  rw [Lib.count_cons_eq, Nat.add_comm]
  simp only [Lib.splitK, hix]
  simp
theorem splitK_some (l : List UInt8) (k : Nat) : ∃ p ps, Lib.splitK [46] 0 k l = p :: ps := by
  cases k with
  | zero => exact ⟨l, [], rfl⟩
  | succ k =>
    simp only [Lib.splitK]
    split
    · exact ⟨_, _, rfl⟩
    · exact ⟨_, _, rfl⟩
/-- The first piece with what was ahead of it, and the others. -/
def nmAll (part : ByteArray) : List (List UInt8) → Bool
  | [] => true
  | p :: ps => nameB (part ++ ⟨p.toArray⟩) && ps.all fun q => nameB ⟨q.toArray⟩
theorem dotL_split : ∀ (l : List UInt8) (part : ByteArray), dotL part l = nmAll part (Lib.splitK [46] 0 (Lib.count l [46]) l)
  | [], part => by
    rw [show Lib.count ([] : List UInt8) [46] = 0 from Lib.count_miss (by simp [Lib.index])]
    simp only [Lib.splitK, nmAll, dotL, List.all_nil, Bool.and_true]
    congr 1
    obtain ⟨d⟩ := part
    apply ByteArray.ext
    simp
  | c :: l, part => by
    by_cases h : c = 46
    · subst h
      rw [splitK_eq]
      simp only [dotL, if_true, nmAll]
      rw [dotL_split l]
      obtain ⟨p, ps, hp⟩ := splitK_some l (Lib.count l [46])
      rw [hp]
      simp only [nmAll, List.all_cons]
      have e1 : part ++ ⟨([] : List UInt8).toArray⟩ = part := by
        obtain ⟨d⟩ := part
        apply ByteArray.ext
        simp
      have e2 : (⟨#[]⟩ : ByteArray) ++ ⟨p.toArray⟩ = ⟨p.toArray⟩ := by
        apply ByteArray.ext
        simp
      rw [e1, e2]
    · rw [splitK_ne c l h]
      simp only [dotL, if_neg h]
      rw [dotL_split l]
      obtain ⟨p, ps, hp⟩ := splitK_some l (Lib.count l [46])
      rw [hp]
      simp only [nmAll]
      have e1 : part ++ ⟨#[c]⟩ ++ ⟨p.toArray⟩ = part ++ ⟨(c :: p).toArray⟩ := by
        obtain ⟨d⟩ := part
        apply ByteArray.ext
        apply Array.ext'
        simp
      rw [e1]
theorem dotR_parts (s : ByteArray) : dotR s = (parts s).all nameB := by
  rw [dotR, dotL_split]
  have h := Lib.splitB_data ⟨#[46]⟩ 0 (Lib.countB s ⟨#[46]⟩) s
  have e : Lib.countB s ⟨#[46]⟩ = Lib.count s.data.toList [46] := rfl
  rw [e] at h
  have h2 : Lib.splitK [46] 0 (Lib.count s.data.toList [46]) s.data.toList = (parts s).map (·.data.toList) := h.symm
  rw [h2]
  obtain ⟨p, ps, hp⟩ : ∃ p ps, parts s = p :: ps := by
    cases hq : parts s with
    | nil =>
      rw [hq] at h2
      obtain ⟨p, ps, h3⟩ := splitK_some s.data.toList (Lib.count s.data.toList [46])
      rw [h3] at h2
      cases h2
    | cons p ps => exact ⟨p, ps, rfl⟩
  rw [hp]
  simp only [List.map_cons, nmAll, List.all_cons, List.all_map]
  have e2 : (⟨#[]⟩ : ByteArray) ++ ⟨p.data.toList.toArray⟩ = p := by
    obtain ⟨d⟩ := p
    apply ByteArray.ext
    simp
  rw [e2]
  congr 1

set_option maxRecDepth 100000 in
set_option maxHeartbeats 2000000 in
theorem dotted_any (s : ByteArray) (hs : s.size ≤ 4294967280) (W : World) : Calls Tryz.prog 107 #[.string s] W fun e w' => e = .returned (.bool (dotR s)) ∧ Below W.heap.size W w' := by
  have HXA : Hid (∀ i, i < s.size → ∀ w, (Instr.index 9 (.string s) (.int .i64 (i : Int))).run Tryz.prog w = .ok (.int .u8 (gS s i)) w) := fun i hi w => idx_str s i hi w
  go_enter Tryz.func107, Tryz.ntmps107
  go_wp2
  go_loopw [3, 4] (fun p t wr => ∃ (i : Nat) (part : ByteArray), i ≤ s.size ∧ t = .int .i64 (i : Int) ∧ p = .string part ∧ part.size ≤ i ∧ dotR s = dotL part (s.data.toList.drop i) ∧ Below W.heap.size W wr) (fun _ t _ => s.size - (intOf t).toNat)
  case atStart => exact ⟨0, ⟨#[]⟩, Nat.zero_le _, rfl, rfl, Nat.zero_le _, rfl, Below.refl _ _⟩
  case round =>
    obtain ⟨i, part, hil, rfl, rfl, hpl, hu, hB⟩ := hrel
    have HU := hide hu
    clear hu
    have HNM := hide (isName_any part (by omega) wr)
    have hsz := hB.size
    by_cases hlt : i < s.size
    case neg =>
      have hlt' : ¬ (i : Int) < s.size := by omega
      have HF : Hid (dotR s = nameB part) := by
        show dotR s = nameB part
        have h1 : s.data.toList.length = s.size := (Lib.size_eq s).symm
        rw [unhide HU, List.drop_eq_nil_of_le (by omega)]; rfl
      go_wp2_with (go_at_call 105; refine (unhide HNM).mono ?_; rintro e w2 ⟨rfl, hB2⟩)
      go_ret
      exact ⟨ret_b (unhide HF).symm, hB.trans (hB2.mono hsz)⟩
    have hlt' : (i : Int) < s.size := by omega
    have hi0 : (0 : Int) ≤ (i : Int) := by omega
    have hxi := unhide HXA i hlt
    obtain ⟨c, hc1, hc2⟩ : ∃ c : UInt8, s.data.toList.drop i = c :: s.data.toList.drop (i + 1) ∧ s.data[i]? = some c := by
      have h1 : i < s.data.toList.length := by rw [← Lib.size_eq]; exact hlt
      refine ⟨s.data.toList[i], List.drop_eq_getElem_cons h1, ?_⟩
      rw [← Array.getElem?_toList, List.getElem?_eq_getElem h1]
    have hgs : gS s i = (c.toNat : Int) := by simp [gS, hc2]
    rw [hgs] at hxi
    have HS : Hid (dotR s = if c = 46 then nameB part && dotL ⟨#[]⟩ (s.data.toList.drop (i + 1)) else dotL (part ++ ⟨#[c]⟩) (s.data.toList.drop (i + 1))) := by
      show dotR s = _
      rw [unhide HU, hc1]; rfl
    by_cases h46 : c = 46
    · subst h46
      have hxi' : (Instr.index 9 (.string s) (.int .i64 (i : Int))).run Tryz.prog wr = .ok (.int .u8 46) wr := hxi wr
      clear hxi hc1 hc2 hgs
      cases hn : nameB part with
      | false =>
        rw [hn] at HNM
        have HF : Hid (dotR s = false) := by show dotR s = false; rw [unhide HS, if_pos rfl, hn]; rfl
        clear hn
        go_wp2_with (go_at_call 105; refine (unhide HNM).mono ?_; rintro e w2 ⟨rfl, hB2⟩)
        go_ret
        exact ⟨ret_b (unhide HF).symm, hB.trans (hB2.mono hsz)⟩
      | true =>
        rw [hn] at HNM
        have HF : Hid (dotR s = dotL ⟨#[]⟩ (s.data.toList.drop (i + 1))) := by show dotR s = _; rw [unhide HS, if_pos rfl, hn]; rfl
        clear hn
        go_wp2_with (go_at_call 105; refine (unhide HNM).mono ?_; rintro e w2 ⟨rfl, hB2⟩)
        exact ⟨⟨i + 1, ⟨#[]⟩, by omega, by go_num, rfl, Nat.zero_le _, unhide HF, hB.trans (hB2.mono hsz)⟩, by simp [intOf]; omega⟩
    · have hne : ((c.toNat : Int) == 46) = false := by
        simp only [beq_eq_false_iff_ne, ne_eq]
        intro e
        apply h46
        have : c.toNat = 46 := by omega
        exact UInt8.toNat_inj.1 this
      have hx2 := hxi wr
      have HEX : Hid (part ++ s.extract i (i + 1) = part ++ ⟨#[c]⟩) := by
        show part ++ s.extract i (i + 1) = part ++ ⟨#[c]⟩
        congr 1
        apply ByteArray.ext
        apply Array.ext'
        rw [Lib.extract_data]
        simp [hc1, show i + 1 - i = 1 by omega]
      have HF : Hid (dotR s = dotL (part ++ s.extract i (i + 1)) (s.data.toList.drop (i + 1))) := by show dotR s = _; rw [unhide HS, if_neg h46, unhide HEX]
      have hps : (part ++ s.extract i (i + 1)).size ≤ i + 1 := by rw [unhide HEX]; simp [ByteArray.size_append]; show part.size + 1 ≤ i + 1; omega
      clear hxi hc1 hc2 hgs
      go_wp2
      refine ⟨⟨i + 1, part ++ s.extract i (i + 1), by omega, by go_num, ?_, hps, unhide HF, hB⟩, by simp [intOf]; omega⟩
      first | rfl | simp
end Go.Proofs.YtnnpkomedpjlcaaGreatDoor

/- The reference's Runes and Good: is a text UTF-8 all through? -/
namespace Go.Proofs.YtnnpkomedpjlcaaGreatDoor
set_option linter.unusedSimpArgs false
set_option linter.unusedVariables false
open Go.RowKit Go.Shelf

theorem infoRow4 : (Tryz.prog.info? 101).map (fun i => (i.zero, i.size, i.bytes)) = some (some (.agg #[.int .i64 0, .int .i32 0, .int .i64 0, .bool false]), 4, 32) := by kernel_rfl

/-- The cells of the k-th row. -/
def row4 (g : Nat → Int) (len k : Nat) : List Value := [.int .i64 (posn g len k : Int), .int .i32 (dRune g len (posn g len k)), .int .i64 (stepN g len (posn g len k) : Int), .bool (dGood g len (posn g len k))]
def rows4 (g : Nat → Int) (len : Nat) : Nat → List Value
  | 0 => []
  | k + 1 => rows4 g len k ++ row4 g len k
theorem rows4_length (g : Nat → Int) (len : Nat) : ∀ k, (rows4 g len k).length = k * 4
  | 0 => rfl
  | k + 1 => by simp only [rows4, List.length_append, rows4_length g len k]; simp [row4]; omega
theorem rows4_get (g : Nat → Int) (len : Nat) : ∀ {k i j : Nat}, i < k → j < 4 → (rows4 g len k)[i * 4 + j]? = (row4 g len i)[j]?
  | 0, i, j, h, _ => by omega
  | k + 1, i, j, h, hj => by
    simp only [rows4]
    by_cases e : i = k
    · subst e
      rw [List.getElem?_append_right (by rw [rows4_length]; omega), rows4_length, show i * 4 + j - i * 4 = j from by omega]
    · rw [List.getElem?_append_left (by rw [rows4_length]; omega)]
      exact rows4_get g len (by omega) hj
theorem want_cell {w : World} {base m n j : Nat} {v : Value} {g : Nat → Int} {len : Nat} (h : w.ownsRow base 101 4 v m (rows4 g len m)) (hn : n < m) (hj : j < 4) : ∃ gw cap, v = .slice (some ⟨gw, 0, none⟩) m cap ∧ m ≤ cap ∧ cap ≤ maxLen ∧ w.cell? ⟨gw, n * 4 + j, none⟩ = (row4 g len n)[j]? := by
  rcases h.2 with ⟨_, h0⟩ | ⟨gw, cap, cur, rfl, _, _, h1, h2, _, _⟩
  · omega
  · refine ⟨gw, cap, rfl, h1, h2, ?_⟩
    have hr := rows4_get g len hn hj
    have hlt : j < (row4 g len n).length := by simpa [row4] using hj
    rw [List.getElem?_eq_getElem hlt] at hr ⊢
    have := h.cells (g := gw) rfl (n * 4 + j) _ hr
    rw [Addr.add_lit, Nat.zero_add] at this
    exact this
theorem ownsRow_slice {w : World} {base : Nat} {e : TypeId} {size : Nat} {v : Value} {n : Nat} {xs : List Value} (h : w.ownsRow base e size v n xs) : ∃ ao cap, v = .slice ao n cap := by
  rcases h.2 with ⟨h, h0⟩ | ⟨gw, cap, cur, h, _⟩
  · exact ⟨none, 0, by rw [h, h0]⟩
  · exact ⟨_, cap, h⟩

set_option maxRecDepth 100000 in
set_option maxHeartbeats 2000000 in
theorem rrunes_any {b len cap : Nat} {g : Nat → Int} (hg : ∀ j, 0 ≤ g j ∧ g j ≤ 255) (w : World) (hlen : len ≤ 1048576) (hcap : len ≤ cap) (hcm : cap ≤ maxLen) (hb : b < w.heap.size) (hS : ∀ j, j < len → w.cell? ⟨b, 0 + j, none⟩ = some (.int .u8 (g j))) :
    Calls Tryz.prog 141 #[.slice (some ⟨b, 0, none⟩) len cap] w fun e w' => ∃ m v, e = .returned v ∧ Runes g len m ∧ w'.ownsRow w.heap.size 101 4 v m (rows4 g len m) ∧ Below w.heap.size w w' := by
  obtain ⟨i0, hi, hz0, hz1, hz2⟩ := info_parts infoRow4
  have HS : Hid (∀ w', Below w.heap.size w w' → ∀ i, i < len → Calls Tryz.prog 153 #[.slice (some ⟨b, 0, none⟩) len cap, .int .i64 (i : Int)] w' fun e w2 => e = .returned (.agg #[.int .i64 (i : Int), .int .i32 (dRune g len i), .int .i64 (stepN g len i : Int), .bool (dGood g len i)]) ∧ Below w'.heap.size w' w2) := fun w' hw i hi2 => by
    have := rdecode_in b 0 len cap i g hg w' hi2 hcap hcm (fun j hj => (hw.cell (p := ⟨b, 0 + j, none⟩) hb).trans (hS j hj))
    rwa [dSize_nat] at this
  clear hS
  go_enter Tryz.func141, Tryz.ntmps141
  go_wp2
  go_loopw [3, 4] (fun l at' wr => ∃ k : Nat, Before g len k ∧ at' = .int .i64 (posn g len k) ∧ wr.ownsRow w.heap.size 101 4 l k (rows4 g len k) ∧ Below w.heap.size w wr) (fun _ at' _ => len - (intOf at').toNat)
  case atStart => exact ⟨0, fun j hj => by omega, rfl, World.ownsRow_nil _ _ _ _, Below.refl _ _⟩
  case round =>
    obtain ⟨k, hbf, rfl, hown, hB⟩ := hrel
    have HO := hide hown
    clear hown
    by_cases hlt : posn g len k < len
    · have hlt' : (posn g len k : Int) < len := by omega
      have hkl := posn_ge hbf
      have hsl := step_le (g := g) (Nat.le_of_lt hlt)
      have hsp := step_pos (g := g) hlt
      have HD := hide (unhide HS wr hB (posn g len k) hlt)
      go_wp2_with (first | (go_at_call 153; refine (unhide HD).mono ?_; rintro e w2 ⟨rfl, hb2⟩; have HO2 := hide (ownsRow_below (unhide HO) hb2)) | (at_builtin; refine wpList_append_own _ rfl _ _ 98 rfl w.heap.size 101 i0 _ 4 32 Tryz.underlying98 hi hz0 hz1 hz2 rfl (by decide) _ _ _ rfl (((unhide HO2).alloc _).alloc _) ⟨w2.heap.size + 1, 0, none⟩ 1 1 (row4 g len k) rfl rfl ?c1 ?c2 ?c3 ?c4 ?c5 ?_))
      case c1 =>
        intro j u hj
        have e1 : (w2.alloc (.cells #[.int .i64 (posn g len k : Int), .int .i32 (dRune g len (posn g len k)), .int .i64 (stepN g len (posn g len k) : Int), .bool (dGood g len (posn g len k))] 101)).heap.size = w2.heap.size + 1 := by simp
        rw [Addr.add_lit, Nat.zero_add, ← e1, World.cell?_alloc_mark]
        rw [← hj]; simp [row4]
      case c2 => intro u hu; simp [row4] at hu; rcases hu with rfl | rfl | rfl | rfl <;> rfl
      case c3 => unfold maxLen; omega
      case c4 => omega
      case c5 => have h1 := hB.size; have h2 := hb2.size; simp; omega
      intro v' w3 hown3 hg3 _
      have hs3 := hg3.size
      have hBk : Below w.heap.size w w3 := ((((hB.trans (hb2.mono hB.size)).alloc (Nat.le_trans hB.size hb2.size) _).alloc (by have h1 := hB.size; have h2 := hb2.size; simp; omega) _).grown hg3 (by have h1 := hB.size; have h2 := hb2.size; simp; omega) (fun j hj => ((unhide HO2).lt j hj).1))
      have hbx : w3.heap[w2.heap.size]? = some (.cells #[.int .i64 (posn g len k : Int), .int .i32 (dRune g len (posn g len k)), .int .i64 (stepN g len (posn g len k) : Int), .bool (dGood g len (posn g len k))] 101) := by
        rw [hg3.block w2.heap.size (by simp; omega) (fun e => by have := ((unhide HO2).lt w2.heap.size e.symm).2; omega), Below.heap_alloc _ _ _ (by simp)]
        exact World.alloc_heap_new w2 _
      have hcl : w3.cell? ⟨w2.heap.size, 2, none⟩ = some (.int .i64 (stepN g len (posn g len k) : Int)) := by rw [Lib.cell_of_heap hbx]; rfl
      have HO3 : Hid (w3.ownsRow w.heap.size 101 4 v' (k + 1) (rows4 g len (k + 1))) := hown3
      clear hown3 hbx hg3
      go_wp2
      exact ⟨⟨k + 1, hbf.succ hlt, by simp only [posn]; go_num, unhide HO3, hBk⟩, by simp [intOf]; omega⟩
    · have hpl := posn_le g len k
      have hlt' : ¬ (posn g len k : Int) < len := by omega
      go_wp2
      go_ret
      exact ⟨k, _, rfl, ⟨by omega, hbf⟩, unhide HO, hB⟩

/-- From the k-th rune on all are good. -/
theorem gdT_at {g : Nat → Int} {len m : Nat} (hm : Runes g len m) : ∀ (d k f : Nat), m - k ≤ d → k ≤ m → m - k ≤ f → gdT g len f (posn g len k) = true → ∀ j, k ≤ j → j < m → dGood g len (posn g len j) = true
  | 0, k, f, hd, hk, hf, h, j, h1, h2 => by omega
  | d + 1, k, f, hd, hk, hf, h, j, h1, h2 => by
    have hlt := hm.2 k (by omega)
    obtain ⟨f', rfl⟩ : ∃ f', f = f' + 1 := ⟨f - 1, by omega⟩
    simp only [gdT, if_pos hlt, Bool.and_eq_true] at h
    by_cases e : j = k
    · subst e; exact h.1
    · exact gdT_at hm d (k + 1) f' (by omega) (by omega) (by omega) h.2 j (by omega) h2
theorem gdT_of {g : Nat → Int} {len m : Nat} (hm : Runes g len m) : ∀ (f k : Nat), k ≤ m → (∀ j, k ≤ j → j < m → dGood g len (posn g len j) = true) → gdT g len f (posn g len k) = true
  | 0, k, _, _ => rfl
  | f + 1, k, hk, h => by
    simp only [gdT]
    by_cases e : k = m
    · subst e; rw [hm.1, if_neg (by omega)]
    · rw [if_pos (hm.2 k (by omega)), h k (Nat.le_refl _) (by omega)]
      exact gdT_of hm f (k + 1) (by omega) (fun j h1 h2 => h j (by omega) h2)

set_option maxRecDepth 100000 in
set_option maxHeartbeats 2000000 in
theorem rgood_any (s : ByteArray) (W : World) (hs : s.size ≤ 1048576) : Calls Tryz.prog 104 #[.string s] W fun e w' => e = .returned (.bool (goodB s)) ∧ Below W.heap.size W w' := by
  obtain ⟨cap, C, fr, hcv, hcap, hcm, hC⟩ := conv_str s W (by omega)
  have hcell : ∀ j, j < s.size → ((W.alloc (.cells C 5 fr)).drew).cell? ⟨W.heap.size, 0 + j, none⟩ = some (.int .u8 (gS s j)) := fun j hj => by
    have h1 : (W.alloc (.cells C 5 fr)).drew.heap[W.heap.size]? = some (.cells C 5 fr) := World.alloc_heap_new W _
    rw [Lib.cell_of_heap h1, Nat.zero_add]; exact hC j hj
  have hB0 : Below W.heap.size W (W.alloc (.cells C 5 fr)).drew := ((Below.refl _ W).alloc (Nat.le_refl _) _).drew
  have hzd : (W.alloc (.cells C 5 fr)).drew.heap.size = W.heap.size + 1 := by simp
  have HRR := hide (rrunes_any (gS_bd s) (W.alloc (.cells C 5 fr)).drew hs hcap hcm (b := W.heap.size) (by omega) hcell)
  clear hcell hC
  go_enter Tryz.func104, Tryz.ntmps104
  go_wp2_with (go_at_call 141; refine (unhide HRR).mono ?_; rintro e w1 ⟨m, v, rfl, hm, hown, hB1⟩; obtain ⟨ao, cv, rfl⟩ := ownsRow_slice hown; have HO := hide hown; have HB1 := hide hB1; clear hown hB1)
  have hB1 : Below W.heap.size W w1 := hB0.trans ((unhide HB1).mono (by omega))
  have hml := hm.le
  have HM := hide hm
  clear hm hcv hB0
  go_loopw [4] (fun t wr => ∃ k : Nat, k ≤ m ∧ t = .int .i64 (k : Int) ∧ (∀ j, j < k → dGood (gS s) s.size (posn (gS s) s.size j) = true) ∧ wr = w1) (fun t _ => m - (intOf t).toNat)
  case atStart => exact ⟨0, Nat.zero_le _, rfl, fun j hj => by omega, rfl⟩
  case round =>
    obtain ⟨k, hk, rfl, hno, hw⟩ := hrel
    subst wr
    have HNO := hide hno
    clear hno
    by_cases hlt : k < m
    · have hlt' : (k : Int) < m := by omega
      have hk0 : (0 : Int) ≤ (k : Int) := by omega
      obtain ⟨gw, cw, hv, hw1, hw2, hc3⟩ := want_cell (j := 3) (unhide HO) hlt (by decide)
      obtain ⟨hva, hvc⟩ : ao = some ⟨gw, 0, none⟩ ∧ cv = cw := by injection hv with h1 _ h3; exact ⟨h1, h3⟩
      subst hva
      simp only [row4, List.getElem?_cons_zero, List.getElem?_cons_succ] at hc3
      clear hv
      obtain ⟨q, hq⟩ : ∃ q, dGood (gS s) s.size (posn (gS s) s.size k) = q := ⟨_, rfl⟩
      rw [hq] at hc3
      have HQ := hide hq
      clear hq
      cases q with
      | true =>
        go_wp2
        refine ⟨⟨k + 1, by omega, by go_num, fun j hj => ?_, trivial⟩, by simp [intOf]; omega⟩
        by_cases e : j = k
        · subst e; exact unhide HQ
        · exact unhide HNO j (by omega)
      | false =>
        have HF : Hid (goodB s = false) := by
          show goodB s = false
          cases h : goodB s with
          | false => rfl
          | true =>
            have := gdT_at (unhide HM) m 0 s.size (by omega) (Nat.zero_le _) (by omega) h k (Nat.zero_le _) hlt
            rw [unhide HQ] at this
            cases this
        go_wp2
        go_ret
        exact ⟨ret_b (unhide HF).symm, hB1⟩
    · have hlt' : ¬ (k : Int) < m := by omega
      obtain rfl : k = m := by omega
      have HF : Hid (goodB s = true) := gdT_of (unhide HM) s.size 0 (Nat.zero_le _) (fun j _ hj => unhide HNO j hj)
      go_wp2
      go_ret
      exact ⟨ret_b (unhide HF).symm, hB1⟩
end Go.Proofs.YtnnpkomedpjlcaaGreatDoor

/- The reference's texted. -/
namespace Go.Proofs.YtnnpkomedpjlcaaGreatDoor
set_option linter.unusedSimpArgs false
set_option linter.unusedVariables false
open Go.RowKit

def nmK : List Int := [17, 21, 29, 32, 40, 41, 42, 43, 44, 45, 47, 48, 49, 51, 52, 56, 62, 66, 67, 85]
/-- What the reference asks of a text, by the kind. -/
def txR (k : Int) (s : ByteArray) : Bool :=
  if k = 11 ∨ k = 82 then goodB s else if nmK.contains k then nameB s else if k = 23 then hasT unL s else if k = 24 then hasT binL s else if k = 26 then hasT asgL s else if k = 80 then dotR s || hasT tnL s else s.toList.isEmpty

theorem txts_new (w : World) (L : List ByteArray) : Txts (w.alloc (.cells (L.map Value.string).toArray 9)) w.heap.size 0 L := fun j s hj => by
  rw [Lib.cell_of_heap (rat_a1 w _), Nat.zero_add]
  simp [hj]
/-- among over a list that was just laid. -/
theorem among_lit (w : World) (v : ByteArray) (L : List ByteArray) (hL : L.length ≤ 100) : Calls Tryz.prog 106 #[.string v, .slice (some ⟨w.heap.size, 0, none⟩) L.length L.length] (w.alloc (.cells (L.map Value.string).toArray 9)) fun e w' => e = .returned (.bool (hasT L v)) ∧ Below w.heap.size w w' :=
  (among_any v L w.heap.size L.length L.length _ (txts_new w L) (by simp) rfl hL (Nat.le_refl _)).mono fun e w' h => ⟨h.1, by rw [h.2]; exact (Below.refl _ w).alloc (Nat.le_refl _) _⟩

set_option maxRecDepth 100000 in
set_option maxHeartbeats 4000000 in
theorem texted_any (x : Nd) (a : Option Addr) (c : Nat) (W : World) (hs : x.text.size ≤ 1048576) : Calls Tryz.prog 75 #[.agg #[.int .i64 x.kind, .string x.text, .int .i64 x.num, .slice a x.kids.length c, .int .i64 x.at']] W fun e w' => e = .returned (.bool (txR x.kind x.text)) ∧ Below W.heap.size W w' := by
  obtain ⟨kd, tx, nm, ks, at'⟩ := x
  simp only at hs ⊢
  obtain ⟨W1, hW1⟩ : ∃ W1, W.alloc (.cells #[.int .i64 kd, .string tx, .int .i64 nm, .slice a ks.length c, .int .i64 at'] 41) = W1 := ⟨_, rfl⟩
  have hB1 : Below W.heap.size W W1 := by rw [← hW1]; exact (Below.refl _ W).alloc (Nat.le_refl _) _
  have c1 : W1.heap[W.heap.size]? = some (.cells #[.int .i64 kd, .string tx, .int .i64 nm, .slice a ks.length c, .int .i64 at'] 41) := by rw [← hW1]; exact rat_a1 W _
  have hz1 : W1.heap.size = W.heap.size + 1 := by rw [← hW1]; simp
  have hsz : W.heap.size < W1.heap.size := by omega
  have HC1 : Hid (∀ w, Below W1.heap.size W1 w → Below W.heap.size W w ∧ w.cell? ⟨W.heap.size, 0, none⟩ = some (.int .i64 kd) ∧ w.cell? ⟨W.heap.size, 1, none⟩ = some (.string tx) ∧ W.heap.size < w.heap.size) := fun w hw => by
    obtain ⟨y0, y1, _⟩ := rcells5 ((hw.block _ (by omega)).trans c1)
    exact ⟨hB1.trans (hw.mono (by omega)), y0, y1, by have := hw.size; omega⟩
  obtain ⟨z0, z1, z2, z3⟩ := unhide HC1 W1 (Below.refl _ _)
  have HZ0 := hide z0
  clear z0 hz1 c1
  by_cases h1 : kd ∈ ([11, 82] : List Int)
  · simp only [List.mem_cons, List.not_mem_nil, or_false] at h1
    rcases h1 with rfl | rfl
    all_goals (
      have HF := hide (rgood_any tx W1 hs)
      go_enter Tryz.func75, Tryz.ntmps75
      go_wp2_with (go_at_call 104; refine (unhide HF).mono ?_; rintro e w2 ⟨rfl, hB2⟩)
      go_ret
      exact ⟨rfl, (unhide HC1 w2 hB2).1⟩)
  by_cases h2 : kd ∈ ([17, 21, 29, 32, 40, 41, 42, 43, 44, 45, 47, 48, 49, 51, 52, 56, 62, 66, 67, 85] : List Int)
  · simp only [List.mem_cons, List.not_mem_nil, or_false] at h2
    rcases h2 with rfl | rfl | rfl | rfl | rfl | rfl | rfl | rfl | rfl | rfl | rfl | rfl | rfl | rfl | rfl | rfl | rfl | rfl | rfl | rfl
    all_goals (
      have HF := hide (isName_any tx (by omega) W1)
      go_enter Tryz.func75, Tryz.ntmps75
      go_wp2_with (go_at_call 105; refine (unhide HF).mono ?_; rintro e w2 ⟨rfl, hB2⟩)
      go_ret
      exact ⟨rfl, (unhide HC1 w2 hB2).1⟩)
  by_cases h3 : kd ∈ ([23] : List Int)
  · simp only [List.mem_cons, List.not_mem_nil, or_false] at h3
    rcases h3 with rfl
    all_goals (
      have HF : Hid (Calls Tryz.prog 106 #[.string tx, .slice (some ⟨W1.heap.size, 0, none⟩) 4 4] (W1.alloc (.cells #[.string ⟨#[33]⟩, .string ⟨#[45]⟩, .string ⟨#[126]⟩, .string ⟨#[116, 121, 112, 101, 111, 102]⟩] 9)) fun e w' => e = .returned (.bool (hasT unL tx)) ∧ Below W1.heap.size W1 w') := among_lit W1 tx unL (by decide)
      go_enter Tryz.func75, Tryz.ntmps75
      go_wp2_with (go_at_call 106; refine (unhide HF).mono ?_; rintro e w2 ⟨rfl, hB2⟩)
      go_ret
      exact ⟨rfl, (unhide HC1 w2 hB2).1⟩)
  by_cases h4 : kd ∈ ([24] : List Int)
  · simp only [List.mem_cons, List.not_mem_nil, or_false] at h4
    rcases h4 with rfl
    all_goals (
      have HF : Hid (Calls Tryz.prog 106 #[.string tx, .slice (some ⟨W1.heap.size, 0, none⟩) 19 19] (W1.alloc (.cells #[.string ⟨#[124, 124]⟩, .string ⟨#[38, 38]⟩, .string ⟨#[124]⟩, .string ⟨#[94]⟩, .string ⟨#[38]⟩, .string ⟨#[61, 61, 61]⟩, .string ⟨#[33, 61, 61]⟩, .string ⟨#[60]⟩, .string ⟨#[60, 61]⟩, .string ⟨#[62]⟩, .string ⟨#[62, 61]⟩, .string ⟨#[105, 110]⟩, .string ⟨#[60, 60]⟩, .string ⟨#[62, 62]⟩, .string ⟨#[62, 62, 62]⟩, .string ⟨#[43]⟩, .string ⟨#[45]⟩, .string ⟨#[42]⟩, .string ⟨#[37]⟩] 9)) fun e w' => e = .returned (.bool (hasT binL tx)) ∧ Below W1.heap.size W1 w') := among_lit W1 tx binL (by decide)
      go_enter Tryz.func75, Tryz.ntmps75
      go_wp2_with (go_at_call 106; refine (unhide HF).mono ?_; rintro e w2 ⟨rfl, hB2⟩)
      go_ret
      exact ⟨rfl, (unhide HC1 w2 hB2).1⟩)
  by_cases h5 : kd ∈ ([26] : List Int)
  · simp only [List.mem_cons, List.not_mem_nil, or_false] at h5
    rcases h5 with rfl
    all_goals (
      have HF : Hid (Calls Tryz.prog 106 #[.string tx, .slice (some ⟨W1.heap.size, 0, none⟩) 5 5] (W1.alloc (.cells #[.string ⟨#[61]⟩, .string ⟨#[43, 61]⟩, .string ⟨#[45, 61]⟩, .string ⟨#[42, 61]⟩, .string ⟨#[37, 61]⟩] 9)) fun e w' => e = .returned (.bool (hasT asgL tx)) ∧ Below W1.heap.size W1 w') := among_lit W1 tx asgL (by decide)
      go_enter Tryz.func75, Tryz.ntmps75
      go_wp2_with (go_at_call 106; refine (unhide HF).mono ?_; rintro e w2 ⟨rfl, hB2⟩)
      go_ret
      exact ⟨rfl, (unhide HC1 w2 hB2).1⟩)
  by_cases h80 : kd = 80
  · subst h80
    have HD := hide (dotted_any tx (by omega) W1)
    have HF : Hid (∀ w, Below W1.heap.size W1 w → Calls Tryz.prog 106 #[.string tx, .slice (some ⟨w.heap.size, 0, none⟩) 4 4] (w.alloc (.cells #[.string ⟨#[110, 117, 108, 108]⟩, .string ⟨#[117, 110, 100, 101, 102, 105, 110, 101, 100]⟩, .string ⟨#[116, 114, 117, 101]⟩, .string ⟨#[102, 97, 108, 115, 101]⟩] 9)) fun e w' => e = .returned (.bool (hasT tnL tx)) ∧ Below W1.heap.size W1 w') := fun w hw => (among_lit w tx tnL (by decide)).mono fun e w' h => ⟨h.1, hw.trans (h.2.mono hw.size)⟩
    have HR : Hid (txR 80 tx = (dotR tx || hasT tnL tx)) := rfl
    cases r1 : dotR tx with
    | true =>
      rw [r1] at HD HR
      clear r1
      go_enter Tryz.func75, Tryz.ntmps75
      go_wp2_with (go_at_call 107; refine (unhide HD).mono ?_; rintro e w2 ⟨rfl, hB2⟩)
      go_ret
      exact ⟨ret_b (by rw [unhide HR]; rfl), (unhide HC1 w2 hB2).1⟩
    | false =>
      rw [r1] at HD HR
      clear r1
      go_enter Tryz.func75, Tryz.ntmps75
      go_wp2_with (first | (go_at_call 107; refine (unhide HD).mono ?_; rintro e w2 ⟨rfl, hB2⟩; obtain ⟨y0, y1, y2, y3⟩ := unhide HC1 w2 hB2) | (go_at_call 106; refine (unhide HF w2 hB2).mono ?_; rintro e w3 ⟨rfl, hB3⟩))
      go_ret
      exact ⟨ret_b (by rw [unhide HR]; rfl), (unhide HC1 w3 hB3).1⟩
  have HR : Hid (txR kd tx = tx.toList.isEmpty) := by
    show txR kd tx = _
    simp only [List.mem_cons, List.not_mem_nil, or_false, not_or] at h1 h2 h3 h4 h5
    simp [txR, nmK, h1, h2, h3, h4, h5, h80]
  simp only [List.mem_cons, List.not_mem_nil, or_false, not_or] at h1 h2 h3 h4 h5
  obtain ⟨q11, q82⟩ := h1
  obtain ⟨q17, q21, q29, q32, q40, q41, q42, q43, q44, q45, q47, q48, q49, q51, q52, q56, q62, q66, q67, q85⟩ := h2
  have e11 : (kd == 11) = false := by simpa using q11
  have e82 : (kd == 82) = false := by simpa using q82
  have e17 : (kd == 17) = false := by simpa using q17
  have e21 : (kd == 21) = false := by simpa using q21
  have e29 : (kd == 29) = false := by simpa using q29
  have e32 : (kd == 32) = false := by simpa using q32
  have e40 : (kd == 40) = false := by simpa using q40
  have e41 : (kd == 41) = false := by simpa using q41
  have e42 : (kd == 42) = false := by simpa using q42
  have e43 : (kd == 43) = false := by simpa using q43
  have e44 : (kd == 44) = false := by simpa using q44
  have e45 : (kd == 45) = false := by simpa using q45
  have e47 : (kd == 47) = false := by simpa using q47
  have e48 : (kd == 48) = false := by simpa using q48
  have e49 : (kd == 49) = false := by simpa using q49
  have e51 : (kd == 51) = false := by simpa using q51
  have e52 : (kd == 52) = false := by simpa using q52
  have e56 : (kd == 56) = false := by simpa using q56
  have e62 : (kd == 62) = false := by simpa using q62
  have e66 : (kd == 66) = false := by simpa using q66
  have e67 : (kd == 67) = false := by simpa using q67
  have e85 : (kd == 85) = false := by simpa using q85
  have e23 : (kd == 23) = false := by simpa using h3
  have e24 : (kd == 24) = false := by simpa using h4
  have e26 : (kd == 26) = false := by simpa using h5
  have e80 : (kd == 80) = false := by simpa using h80
  clear q11 q82 q17 q21 q29 q32 q40 q41 q42 q43 q44 q45 q47 q48 q49 q51 q52 q56 q62 q66 q67 q85 h3 h4 h5 h80
  go_enter Tryz.func75, Tryz.ntmps75
  go_wp2
  go_ret
  exact ⟨ret_b (unhide HR).symm, unhide HZ0⟩
end Go.Proofs.YtnnpkomedpjlcaaGreatDoor

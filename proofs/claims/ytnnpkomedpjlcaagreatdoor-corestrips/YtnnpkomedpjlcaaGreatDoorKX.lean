/- core.isType, isTyped, isBare. -/
import Derived.BigQuiet
import Derived.Deep.QuietTactic
import Derived.Deep.RegionWith
import Derived.LoopN
import Derived.RangeFuncRecord
import Derived.WalkSmall
import Derived.Test.YtnnpkomedpjlcaaGreatDoorK0
/- core.isType, isTyped, isBare and its two functions. -/
namespace Go.Proofs.YtnnpkomedpjlcaaGreatDoor
set_option linter.unusedSimpArgs false
set_option linter.unusedVariables false
open Go.RowKit

set_option maxRecDepth 100000 in
set_option maxHeartbeats 4000000 in
theorem coreType_any (W : World) (k : Int) : Calls Tryz.prog 35 #[.int .i64 k] W fun e w' => e = .returned (.bool (typeK k)) ∧ w' = W := by
  unfold typeK
  by_cases h1 : (80 : Int) ≤ k
  · by_cases h2 : k ≤ 87
    · by_cases h3 : k = 85
      · subst h3
        go_enter Tryz.func35, Tryz.ntmps35
        go_wp2
        go_ret
        exact ⟨rfl, rfl⟩
      · have h3' : (k != 85) = true := by simpa using h3
        have d1 : decide ((80 : Int) ≤ k) = true := decide_eq_true h1
        have d2 : decide (k ≤ (87 : Int)) = true := decide_eq_true h2
        rw [d1, d2, h3']
        go_enter Tryz.func35, Tryz.ntmps35
        go_wp2
        go_ret
        exact ⟨rfl, rfl⟩
    · have d1 : decide ((80 : Int) ≤ k) = true := decide_eq_true h1
      have d2 : decide (k ≤ (87 : Int)) = false := decide_eq_false h2
      rw [d1, d2]
      go_enter Tryz.func35, Tryz.ntmps35
      go_wp2
      go_ret
      exact ⟨rfl, rfl⟩
  · have d1 : decide ((80 : Int) ≤ k) = false := decide_eq_false h1
    rw [d1]
    go_enter Tryz.func35, Tryz.ntmps35
    go_wp2
    go_ret
    exact ⟨rfl, rfl⟩

set_option maxRecDepth 100000 in
set_option maxHeartbeats 4000000 in
theorem coreTyped_any (W : World) (k : Int) : Calls Tryz.prog 19 #[.int .i64 k] W fun e w' => e = .returned (.bool (typedK k)) ∧ w' = W := by
  by_cases hk : k = 33 ∨ k = 34 ∨ k = 47 ∨ k = 48 ∨ k = 49 ∨ k = 50 ∨ k = 51 ∨ k = 52 ∨ k = 67 ∨ k = 85
  · rcases hk with rfl | rfl | rfl | rfl | rfl | rfl | rfl | rfl | rfl | rfl <;>
    (go_enter Tryz.func19, Tryz.ntmps19
     go_wp2
     go_ret
     exact ⟨rfl, rfl⟩)
  · have q1 : (k == 33) = false := by simp only [beq_eq_false_iff_ne]; omega
    have q2 : (k == 34) = false := by simp only [beq_eq_false_iff_ne]; omega
    have q3 : (k == 47) = false := by simp only [beq_eq_false_iff_ne]; omega
    have q4 : (k == 48) = false := by simp only [beq_eq_false_iff_ne]; omega
    have q5 : (k == 49) = false := by simp only [beq_eq_false_iff_ne]; omega
    have q6 : (k == 50) = false := by simp only [beq_eq_false_iff_ne]; omega
    have q7 : (k == 51) = false := by simp only [beq_eq_false_iff_ne]; omega
    have q8 : (k == 52) = false := by simp only [beq_eq_false_iff_ne]; omega
    have q9 : (k == 67) = false := by simp only [beq_eq_false_iff_ne]; omega
    have q10 : (k == 85) = false := by simp only [beq_eq_false_iff_ne]; omega
    have hT : typedK k = typeK k := by simp [typedK, q1, q2, q3, q4, q5, q6, q7, q8, q9, q10]
    have HT := hide (coreType_any W k)
    rw [hT]
    clear hk hT
    go_enter Tryz.func19, Tryz.ntmps19
    go_wp2_with (go_at_call 35; refine (unhide HT).mono ?_; rintro e w2 ⟨rfl, rfl⟩)
    go_ret
    exact ⟨rfl, rfl⟩

set_option maxRecDepth 100000 in
set_option maxHeartbeats 4000000 in
theorem bare1_any (W : World) (M : Nat) (v : Value) (l : List Nd) (n i A B : Nat) (hN : Nodes W M v l) (hM : M ≤ W.heap.size) (hn : n < l.length) (hi : i < (nd l n).kids.length) (hin : ins l ((nd l n).kids.getD i 0) = true)
    (hA : W.cell? ⟨A, 0, none⟩ = some v) (hB : W.cell? ⟨B, 0, none⟩ = some (.int .i64 (n : Int))) (hAl : A < W.heap.size) (hBl : B < W.heap.size) :
    Calls Tryz.prog 36 #[.int .i64 (i : Int), .pointer (some ⟨A, 0, none⟩), .pointer (some ⟨B, 0, none⟩)] W fun e w' => e = .returned (.bool (emptyK l n i)) ∧ ∃ m, w' = W.drewN m := by
  obtain ⟨b, o, cap, ka, kc, rfl, hc1, hc2, hb, d0, d1, d2, d3, d4, hkc, hkm, hK⟩ := hN.at hn
  have hl1 := hN.1
  have hkk := (hN.2.1 n hn).2
  have hq := ins_iff'.1 hin
  have hE : emptyK l n i = (((nd l ((nd l n).kids.getD i 0).toNat).kids.length : Int) == 0) := by
    unfold emptyK kd
    by_cases h : (nd l ((nd l n).kids.getD i 0).toNat).kids.length = 0
    · rw [h]; rfl
    · have h2 : ¬ (((nd l ((nd l n).kids.getD i 0).toNat).kids.length : Int) = 0) := by omega
      rw [beq_eq_false_iff_ne.2 h, beq_eq_false_iff_ne.2 h2]
  rw [hE]
  obtain ⟨k, hk⟩ : ∃ k, (nd l n).kids.getD i 0 = k := ⟨_, rfl⟩
  rcases hK with h | ⟨kb, ko, rfl, hkb, hkc0⟩
  · rw [h] at hi; simp at hi
  have dk := hkc0 i hi
  rw [hk] at dk hq ⊢
  obtain ⟨q, rfl⟩ : ∃ q : Nat, k = (q : Int) := ⟨k.toNat, by omega⟩
  have hql : q < l.length := by omega
  obtain ⟨b2, o2, cap2, qa, qc, hv, _, _, _, e0, e1, e2, e3, e4, _, _, _⟩ := hN.at hql
  cases hv
  obtain ⟨kl, hkl⟩ : ∃ kl, (nd l n).kids.length = kl := ⟨_, rfl⟩
  obtain ⟨ql, hqlen⟩ : ∃ ql, (nd l q).kids.length = ql := ⟨_, rfl⟩
  rw [hkl] at d3 hi hkk
  rw [Int.toNat_natCast]
  rw [hqlen] at e3 ⊢
  have t1 : (n : Int) < l.length := by omega
  have t2 : (0 : Int) ≤ (n : Int) := by omega
  have t3 : (i : Int) < kl := by omega
  have t4 : (0 : Int) ≤ (i : Int) := by omega
  have t5 : (q : Int) < l.length := by omega
  have t6 : (0 : Int) ≤ (q : Int) := by omega
  have t7 : b < W.heap.size := by omega
  have t8 : kb < W.heap.size := by omega
  clear hN d0 d1 d2 d4 e0 e1 e2 e4 hkc0 hE hin hk hq hkc hkm
  go_enter Tryz.func36, Tryz.ntmps36
  go_wp2
  go_quiet (fail)
  go_wp2
  go_ret
  exact ⟨rfl, _, rfl⟩

set_option maxRecDepth 100000 in
set_option maxHeartbeats 4000000 in
theorem bare2_any (W : World) (M : Nat) (v : Value) (l : List Nd) (n i A B : Nat) (hN : Nodes W M v l) (hM : M ≤ W.heap.size) (hn : n < l.length) (hi : i < (nd l n).kids.length) (hin : ins l ((nd l n).kids.getD i 0) = true)
    (hA : W.cell? ⟨A, 0, none⟩ = some v) (hB : W.cell? ⟨B, 0, none⟩ = some (.int .i64 (n : Int))) (hAl : A < W.heap.size) (hBl : B < W.heap.size) :
    Calls Tryz.prog 37 #[.int .i64 (i : Int), .pointer (some ⟨A, 0, none⟩), .pointer (some ⟨B, 0, none⟩)] W fun e w' => e = .returned (.bool (noneK l n i)) ∧ ∃ m, w' = W.drewN m := by
  obtain ⟨b, o, cap, ka, kc, rfl, hc1, hc2, hb, d0, d1, d2, d3, d4, hkc, hkm, hK⟩ := hN.at hn
  have hl1 := hN.1
  have hkk := (hN.2.1 n hn).2
  have hq := ins_iff'.1 hin
  unfold noneK kd
  obtain ⟨k, hk⟩ : ∃ k, (nd l n).kids.getD i 0 = k := ⟨_, rfl⟩
  rcases hK with h | ⟨kb, ko, rfl, hkb, hkc0⟩
  · rw [h] at hi; simp at hi
  have dk := hkc0 i hi
  rw [hk] at dk hq ⊢
  obtain ⟨q, rfl⟩ : ∃ q : Nat, k = (q : Int) := ⟨k.toNat, by omega⟩
  have hql : q < l.length := by omega
  obtain ⟨b2, o2, cap2, qa, qc, hv, _, _, _, e0, e1, e2, e3, e4, _, _, _⟩ := hN.at hql
  cases hv
  obtain ⟨kl, hkl⟩ : ∃ kl, (nd l n).kids.length = kl := ⟨_, rfl⟩
  obtain ⟨qk, hqk⟩ : ∃ qk, (nd l q).kind = qk := ⟨_, rfl⟩
  rw [hkl] at d3 hi hkk
  rw [Int.toNat_natCast]
  rw [hqk] at e0 ⊢
  have t1 : (n : Int) < l.length := by omega
  have t2 : (0 : Int) ≤ (n : Int) := by omega
  have t3 : (i : Int) < kl := by omega
  have t4 : (0 : Int) ≤ (i : Int) := by omega
  have t5 : (q : Int) < l.length := by omega
  have t6 : (0 : Int) ≤ (q : Int) := by omega
  have t7 : b < W.heap.size := by omega
  have t8 : kb < W.heap.size := by omega
  clear hN d0 d1 d2 d4 e1 e2 e3 e4 hkc0 hin hk hq hkc hkm
  go_enter Tryz.func37, Tryz.ntmps37
  go_wp2
  go_quiet (fail)
  go_wp2
  go_ret
  exact ⟨rfl, _, rfl⟩
end Go.Proofs.YtnnpkomedpjlcaaGreatDoor

/- core.isBare in general. -/
namespace Go.Proofs.YtnnpkomedpjlcaaGreatDoor
set_option linter.unusedSimpArgs false
set_option linter.unusedVariables false
open Go.RowKit

theorem two_boxesB {W : World} (v v' : Value) (n n' : Nat) {C : World} (hC : Below (W.heap.size + 1 + 1) ((W.alloc (.cells #[v] n)).alloc (.cells #[v'] n')) C) :
    C.cell? ⟨W.heap.size, 0, none⟩ = some v ∧ C.cell? ⟨W.heap.size + 1, 0, none⟩ = some v' := by
  have h1 : ((W.alloc (.cells #[v] n)).alloc (.cells #[v'] n')).heap[W.heap.size]? = some (.cells #[v] n) := (Below.heap_alloc _ _ _ (by simp)).trans (World.alloc_heap_new W _)
  have h2 : ((W.alloc (.cells #[v] n)).alloc (.cells #[v'] n')).heap[W.heap.size + 1]? = some (.cells #[v'] n') := by
    have := World.alloc_heap_new (W.alloc (.cells #[v] n)) (.cells #[v'] n')
    rw [World.size_alloc] at this
    exact this
  exact ⟨by rw [Lib.cell_of_heap ((hC.block _ (by omega)).trans h1)]; rfl, by rw [Lib.cell_of_heap ((hC.block _ (by omega)).trans h2)]; rfl⟩

theorem bare_setup (W : World) (M : Nat) (v : Value) (l : List Nd) (n : Nat) (hN : Nodes W M v l) (hM : M ≤ W.heap.size) (hn : n < l.length) (hk : need (nd l n).kind ≤ (nd l n).kids.length) (hins : ∀ k ∈ (nd l n).kids, ins l k = true) :
    ∃ W1 b o cap, v = .slice (some ⟨b, o, none⟩) l.length cap ∧ (W.alloc (.cells #[v] 22)).alloc (.cells #[.int .i64 (n : Int)] 3) = W1 ∧
      Hid (∀ (i : Nat) (C : World), (∃ m, C = W1.drewN m) → i < need (nd l n).kind → Calls Tryz.prog 36 #[.int .i64 (i : Int), .pointer (some ⟨W.heap.size, 0, none⟩), .pointer (some ⟨W.heap.size + 1, 0, none⟩)] C fun e w' => e = .returned (.bool (emptyK l n i)) ∧ ∃ m, w' = W1.drewN m) ∧
      Hid (∀ (i : Nat) (C : World), (∃ m, C = W1.drewN m) → i < need (nd l n).kind → Calls Tryz.prog 37 #[.int .i64 (i : Int), .pointer (some ⟨W.heap.size, 0, none⟩), .pointer (some ⟨W.heap.size + 1, 0, none⟩)] C fun e w' => e = .returned (.bool (noneK l n i)) ∧ ∃ m, w' = W1.drewN m) ∧
      Hid (∀ C, (∃ m, C = W1.drewN m) → Below W.heap.size W C) ∧
      Hid (∀ C, (∃ m, C = W1.drewN m) → C.cell? ⟨W.heap.size, 0, none⟩ = some (.slice (some ⟨b, o, none⟩) l.length cap) ∧ C.cell? ⟨W.heap.size + 1, 0, none⟩ = some (.int .i64 (n : Int)) ∧ C.cell? ⟨b, o + n * 5 + 2, none⟩ = some (.int .i64 (nd l n).num) ∧ b < C.heap.size ∧ W.heap.size < C.heap.size ∧ W.heap.size + 1 < C.heap.size) ∧
      W.cell? ⟨b, o + n * 5, none⟩ = some (.int .i64 (nd l n).kind) ∧ b < W.heap.size ∧ l.length ≤ 2199023255552 := by
  obtain ⟨W1, hW1⟩ : ∃ W1, (W.alloc (.cells #[v] 22)).alloc (.cells #[.int .i64 (n : Int)] 3) = W1 := ⟨_, rfl⟩
  have hB1 : Below W.heap.size W W1 := by rw [← hW1]; exact ((Below.refl _ W).alloc (Nat.le_refl _) _).alloc (by simp) _
  have hz1 : W1.heap.size = W.heap.size + 1 + 1 := by rw [← hW1]; simp
  have hbx : ∀ m, (W1.drewN m).cell? ⟨W.heap.size, 0, none⟩ = some v ∧ (W1.drewN m).cell? ⟨W.heap.size + 1, 0, none⟩ = some (.int .i64 (n : Int)) := fun m => by
    have := two_boxesB v (.int .i64 (n : Int)) 22 3 (C := W1) (by rw [hW1]; rw [← hz1]; exact Below.refl _ _)
    exact this
  have hN1 : ∀ m, Nodes (W1.drewN m) M v l := fun m => (hN.keep hB1 hM).keep (below_drewN (Below.refl W1.heap.size W1) m) (by omega)
  have hin : ∀ i, i < (nd l n).kids.length → ins l ((nd l n).kids.getD i 0) = true := fun i hi => hins _ (by rw [List.getD_eq_getElem?_getD, List.getElem?_eq_getElem hi]; exact List.getElem_mem hi)
  obtain ⟨b, o, cap, ka, kc, rfl, hc1, hc2, hb, d0, d1, d2, d3, d4, hkc, hkm, hK⟩ := (hN.keep hB1 hM).at hn
  refine ⟨W1, b, o, cap, rfl, hW1, ?_, ?_, ?_, ?_, (hB1.cell (p := ⟨b, o + n * 5, none⟩) (by show b < W.heap.size; omega)).symm.trans d0, by omega, hN.1⟩
  · rintro i C ⟨m, rfl⟩ hi
    refine (bare1_any (W1.drewN m) M _ l n i _ _ (hN1 m) (by show M ≤ W1.heap.size; omega) hn (by omega) (hin i (by omega)) (hbx m).1 (hbx m).2 (by show _ < W1.heap.size; omega) (by show _ < W1.heap.size; omega)).mono ?_
    rintro e w' ⟨h, m', rfl⟩
    exact ⟨h, m + m', by rw [World.drewN_drewN]⟩
  · rintro i C ⟨m, rfl⟩ hi
    refine (bare2_any (W1.drewN m) M _ l n i _ _ (hN1 m) (by show M ≤ W1.heap.size; omega) hn (by omega) (hin i (by omega)) (hbx m).1 (hbx m).2 (by show _ < W1.heap.size; omega) (by show _ < W1.heap.size; omega)).mono ?_
    rintro e w' ⟨h, m', rfl⟩
    exact ⟨h, m + m', by rw [World.drewN_drewN]⟩
  · rintro C ⟨m, rfl⟩
    exact below_drewN hB1 m
  · rintro C ⟨m, rfl⟩
    exact ⟨(hbx m).1, (hbx m).2, d2, by show b < W1.heap.size; omega, by show _ < W1.heap.size; omega, by show _ < W1.heap.size; omega⟩

set_option maxRecDepth 100000 in
set_option maxHeartbeats 4000000 in
theorem bare_22 (W : World) (M : Nat) (v : Value) (l : List Nd) (n : Nat) (hN : Nodes W M v l) (hM : M ≤ W.heap.size) (hn : n < l.length) (hk : need (nd l n).kind ≤ (nd l n).kids.length) (hins : ∀ k ∈ (nd l n).kids, ins l k = true) (hkd : (nd l n).kind = 22) :
    Calls Tryz.prog 20 #[v, .int .i64 (n : Int)] W fun e w' => e = .returned (.bool (bareP l n)) ∧ Below W.heap.size W w' := by
  obtain ⟨W1, b, o, cap, rfl, hW1, H1, H2, HD, HCE, d0, t6, hl1⟩ := bare_setup W M v l n hN hM hn hk hins
  have H0 : Hid (∃ m, W1 = W1.drewN m) := ⟨0, rfl⟩
  obtain ⟨c1, c2, d2, t3, t4, t5⟩ := unhide HCE W1 (unhide H0)
  have t1 : (n : Int) < l.length := by omega
  have t2 : (0 : Int) ≤ (n : Int) := by omega
  have HW1 := hide hW1
  have hv : bareP l n = emptyK l n 0 := by simp [bareP, hkd]
  rw [hkd] at d0 H1 H2
  rw [hv]
  have H1' : Hid (∀ C, (∃ m, C = W1.drewN m) → _) := fun C hC => unhide H1 0 C hC (by decide)
  clear hv hkd hN hk hins hW1
  go_enter Tryz.func20, Tryz.ntmps20
  go_wp2_with (go_at_call 36; rw [unhide HW1]; refine (unhide H1' _ (unhide H0)).mono ?_; rintro e w1 ⟨rfl, hm1⟩; have HM1 := hide hm1; clear hm1; obtain ⟨y1, z1, x1, r1, p1, o1⟩ := unhide HCE w1 (unhide HM1))
  go_ret
  exact ⟨rfl, unhide HD _ (unhide HM1)⟩

set_option maxRecDepth 100000 in
set_option maxHeartbeats 4000000 in
theorem bare_43 (W : World) (M : Nat) (v : Value) (l : List Nd) (n : Nat) (hN : Nodes W M v l) (hM : M ≤ W.heap.size) (hn : n < l.length) (hk : need (nd l n).kind ≤ (nd l n).kids.length) (hins : ∀ k ∈ (nd l n).kids, ins l k = true) (hkd : (nd l n).kind = 43) :
    Calls Tryz.prog 20 #[v, .int .i64 (n : Int)] W fun e w' => e = .returned (.bool (bareP l n)) ∧ Below W.heap.size W w' := by
  obtain ⟨W1, b, o, cap, rfl, hW1, H1, H2, HD, HCE, d0, t6, hl1⟩ := bare_setup W M v l n hN hM hn hk hins
  have H0 : Hid (∃ m, W1 = W1.drewN m) := ⟨0, rfl⟩
  obtain ⟨c1, c2, d2, t3, t4, t5⟩ := unhide HCE W1 (unhide H0)
  have t1 : (n : Int) < l.length := by omega
  have t2 : (0 : Int) ≤ (n : Int) := by omega
  have HW1 := hide hW1
  have hv : bareP l n = emptyK l n 0 := by simp [bareP, hkd]
  rw [hkd] at d0 H1 H2
  rw [hv]
  have H1' : Hid (∀ C, (∃ m, C = W1.drewN m) → _) := fun C hC => unhide H1 0 C hC (by decide)
  clear hv hkd hN hk hins hW1
  go_enter Tryz.func20, Tryz.ntmps20
  go_wp2_with (go_at_call 36; rw [unhide HW1]; refine (unhide H1' _ (unhide H0)).mono ?_; rintro e w1 ⟨rfl, hm1⟩; have HM1 := hide hm1; clear hm1; obtain ⟨y1, z1, x1, r1, p1, o1⟩ := unhide HCE w1 (unhide HM1))
  go_ret
  exact ⟨rfl, unhide HD _ (unhide HM1)⟩

set_option maxRecDepth 100000 in
set_option maxHeartbeats 4000000 in
theorem bare_41 (W : World) (M : Nat) (v : Value) (l : List Nd) (n : Nat) (hN : Nodes W M v l) (hM : M ≤ W.heap.size) (hn : n < l.length) (hk : need (nd l n).kind ≤ (nd l n).kids.length) (hins : ∀ k ∈ (nd l n).kids, ins l k = true) (hkd : (nd l n).kind = 41) :
    Calls Tryz.prog 20 #[v, .int .i64 (n : Int)] W fun e w' => e = .returned (.bool (bareP l n)) ∧ Below W.heap.size W w' := by
  obtain ⟨W1, b, o, cap, rfl, hW1, H1, H2, HD, HCE, d0, t6, hl1⟩ := bare_setup W M v l n hN hM hn hk hins
  have H0 : Hid (∃ m, W1 = W1.drewN m) := ⟨0, rfl⟩
  obtain ⟨c1, c2, d2, t3, t4, t5⟩ := unhide HCE W1 (unhide H0)
  have t1 : (n : Int) < l.length := by omega
  have t2 : (0 : Int) ≤ (n : Int) := by omega
  have HW1 := hide hW1
  have hv : bareP l n = (emptyK l n 0 && noneK l n 2) := by simp [bareP, hkd]
  rw [hkd] at d0 H1 H2
  rw [hv]
  have H1' : Hid (∀ C, (∃ m, C = W1.drewN m) → _) := fun C hC => unhide H1 0 C hC (by decide)
  clear hv hkd hN hk hins hW1
  obtain ⟨eb, hE⟩ : ∃ eb, emptyK l n 0 = eb := ⟨_, rfl⟩
  rw [hE] at H1' ⊢
  have HE := hide hE
  clear hE
  cases eb with
  | true =>
    rw [Bool.true_and]
    go_enter Tryz.func20, Tryz.ntmps20
    go_wp2_with (first | (go_at_call 36; rw [unhide HW1]; refine (unhide H1' _ (unhide H0)).mono ?_; rintro e w1 ⟨rfl, hm1⟩; have HM1 := hide hm1; clear hm1; obtain ⟨y1, z1, x1, r1, p1, o1⟩ := unhide HCE w1 (unhide HM1)) | (go_at_call 37; refine (unhide H2 2 _ (unhide HM1) (by decide)).mono ?_; rintro e w2 ⟨rfl, hm2⟩; have HM2 := hide hm2; clear hm2; obtain ⟨y2, z2, x2, r2, p2, o2⟩ := unhide HCE w2 (unhide HM2)))
    go_ret
    exact ⟨rfl, unhide HD _ (unhide HM2)⟩
  | false =>
    rw [Bool.false_and]
    go_enter Tryz.func20, Tryz.ntmps20
    go_wp2_with (go_at_call 36; rw [unhide HW1]; refine (unhide H1' _ (unhide H0)).mono ?_; rintro e w1 ⟨rfl, hm1⟩; have HM1 := hide hm1; clear hm1; obtain ⟨y1, z1, x1, r1, p1, o1⟩ := unhide HCE w1 (unhide HM1))
    go_ret
    exact ⟨rfl, unhide HD _ (unhide HM1)⟩

set_option maxRecDepth 100000 in
set_option maxHeartbeats 4000000 in
theorem bare_45 (W : World) (M : Nat) (v : Value) (l : List Nd) (n : Nat) (hN : Nodes W M v l) (hM : M ≤ W.heap.size) (hn : n < l.length) (hk : need (nd l n).kind ≤ (nd l n).kids.length) (hins : ∀ k ∈ (nd l n).kids, ins l k = true) (hkd : (nd l n).kind = 45) :
    Calls Tryz.prog 20 #[v, .int .i64 (n : Int)] W fun e w' => e = .returned (.bool (bareP l n)) ∧ Below W.heap.size W w' := by
  obtain ⟨W1, b, o, cap, rfl, hW1, H1, H2, HD, HCE, d0, t6, hl1⟩ := bare_setup W M v l n hN hM hn hk hins
  have H0 : Hid (∃ m, W1 = W1.drewN m) := ⟨0, rfl⟩
  obtain ⟨c1, c2, d2, t3, t4, t5⟩ := unhide HCE W1 (unhide H0)
  have t1 : (n : Int) < l.length := by omega
  have t2 : (0 : Int) ≤ (n : Int) := by omega
  have HW1 := hide hW1
  have hv : bareP l n = (emptyK l n 0 && noneK l n 2) := by simp [bareP, hkd]
  rw [hkd] at d0 H1 H2
  rw [hv]
  have H1' : Hid (∀ C, (∃ m, C = W1.drewN m) → _) := fun C hC => unhide H1 0 C hC (by decide)
  clear hv hkd hN hk hins hW1
  obtain ⟨eb, hE⟩ : ∃ eb, emptyK l n 0 = eb := ⟨_, rfl⟩
  rw [hE] at H1' ⊢
  have HE := hide hE
  clear hE
  cases eb with
  | true =>
    rw [Bool.true_and]
    go_enter Tryz.func20, Tryz.ntmps20
    go_wp2_with (first | (go_at_call 36; rw [unhide HW1]; refine (unhide H1' _ (unhide H0)).mono ?_; rintro e w1 ⟨rfl, hm1⟩; have HM1 := hide hm1; clear hm1; obtain ⟨y1, z1, x1, r1, p1, o1⟩ := unhide HCE w1 (unhide HM1)) | (go_at_call 37; refine (unhide H2 2 _ (unhide HM1) (by decide)).mono ?_; rintro e w2 ⟨rfl, hm2⟩; have HM2 := hide hm2; clear hm2; obtain ⟨y2, z2, x2, r2, p2, o2⟩ := unhide HCE w2 (unhide HM2)))
    go_ret
    exact ⟨rfl, unhide HD _ (unhide HM2)⟩
  | false =>
    rw [Bool.false_and]
    go_enter Tryz.func20, Tryz.ntmps20
    go_wp2_with (go_at_call 36; rw [unhide HW1]; refine (unhide H1' _ (unhide H0)).mono ?_; rintro e w1 ⟨rfl, hm1⟩; have HM1 := hide hm1; clear hm1; obtain ⟨y1, z1, x1, r1, p1, o1⟩ := unhide HCE w1 (unhide HM1))
    go_ret
    exact ⟨rfl, unhide HD _ (unhide HM1)⟩

set_option maxRecDepth 100000 in
set_option maxHeartbeats 4000000 in
theorem bare_42 (W : World) (M : Nat) (v : Value) (l : List Nd) (n : Nat) (hN : Nodes W M v l) (hM : M ≤ W.heap.size) (hn : n < l.length) (hk : need (nd l n).kind ≤ (nd l n).kids.length) (hins : ∀ k ∈ (nd l n).kids, ins l k = true) (hkd : (nd l n).kind = 42) :
    Calls Tryz.prog 20 #[v, .int .i64 (n : Int)] W fun e w' => e = .returned (.bool (bareP l n)) ∧ Below W.heap.size W w' := by
  obtain ⟨W1, b, o, cap, rfl, hW1, H1, H2, HD, HCE, d0, t6, hl1⟩ := bare_setup W M v l n hN hM hn hk hins
  have H0 : Hid (∃ m, W1 = W1.drewN m) := ⟨0, rfl⟩
  obtain ⟨c1, c2, d2, t3, t4, t5⟩ := unhide HCE W1 (unhide H0)
  have t1 : (n : Int) < l.length := by omega
  have t2 : (0 : Int) ≤ (n : Int) := by omega
  have HW1 := hide hW1
  have hv : bareP l n = (emptyK l n 0 && emptyK l n 2) := by simp [bareP, hkd]
  rw [hkd] at d0 H1 H2
  rw [hv]
  have H1' : Hid (∀ C, (∃ m, C = W1.drewN m) → _) := fun C hC => unhide H1 0 C hC (by decide)
  clear hv hkd hN hk hins hW1
  obtain ⟨eb, hE⟩ : ∃ eb, emptyK l n 0 = eb := ⟨_, rfl⟩
  rw [hE] at H1' ⊢
  have HE := hide hE
  clear hE
  cases eb with
  | true =>
    rw [Bool.true_and]
    go_enter Tryz.func20, Tryz.ntmps20
    go_wp2_with (first | (go_at_call_of 36 (Value.int .i64 (0 : Int)); rw [unhide HW1]; refine (unhide H1' _ (unhide H0)).mono ?_; rintro e w1 ⟨rfl, hm1⟩; have HM1 := hide hm1; clear hm1; obtain ⟨y1, z1, x1, r1, p1, o1⟩ := unhide HCE w1 (unhide HM1)) | (go_at_call_of 36 (Value.int .i64 (2 : Int)); refine (unhide H1 2 _ (unhide HM1) (by decide)).mono ?_; rintro e w2 ⟨rfl, hm2⟩; have HM2 := hide hm2; clear hm2; obtain ⟨y2, z2, x2, r2, p2, o2⟩ := unhide HCE w2 (unhide HM2)))
    go_ret
    exact ⟨rfl, unhide HD _ (unhide HM2)⟩
  | false =>
    rw [Bool.false_and]
    go_enter Tryz.func20, Tryz.ntmps20
    go_wp2_with (go_at_call 36; rw [unhide HW1]; refine (unhide H1' _ (unhide H0)).mono ?_; rintro e w1 ⟨rfl, hm1⟩; have HM1 := hide hm1; clear hm1; obtain ⟨y1, z1, x1, r1, p1, o1⟩ := unhide HCE w1 (unhide HM1))
    go_ret
    exact ⟨rfl, unhide HD _ (unhide HM1)⟩

set_option maxRecDepth 100000 in
set_option maxHeartbeats 4000000 in
theorem bare_27 (W : World) (M : Nat) (v : Value) (l : List Nd) (n : Nat) (hN : Nodes W M v l) (hM : M ≤ W.heap.size) (hn : n < l.length) (hk : need (nd l n).kind ≤ (nd l n).kids.length) (hins : ∀ k ∈ (nd l n).kids, ins l k = true) (hkd : (nd l n).kind = 27) :
    Calls Tryz.prog 20 #[v, .int .i64 (n : Int)] W fun e w' => e = .returned (.bool (bareP l n)) ∧ Below W.heap.size W w' := by
  obtain ⟨W1, b, o, cap, rfl, hW1, H1, H2, HD, HCE, d0, t6, hl1⟩ := bare_setup W M v l n hN hM hn hk hins
  have H0 : Hid (∃ m, W1 = W1.drewN m) := ⟨0, rfl⟩
  obtain ⟨c1, c2, d2, t3, t4, t5⟩ := unhide HCE W1 (unhide H0)
  have t1 : (n : Int) < l.length := by omega
  have t2 : (0 : Int) ≤ (n : Int) := by omega
  have HW1 := hide hW1
  have hv : bareP l n = emptyK l n 1 := by simp [bareP, hkd]
  rw [hkd] at d0 H1 H2
  rw [hv]
  have H1' : Hid (∀ C, (∃ m, C = W1.drewN m) → _) := fun C hC => unhide H1 1 C hC (by decide)
  clear hv hkd hN hk hins hW1
  go_enter Tryz.func20, Tryz.ntmps20
  go_wp2_with (go_at_call 36; rw [unhide HW1]; refine (unhide H1' _ (unhide H0)).mono ?_; rintro e w1 ⟨rfl, hm1⟩; have HM1 := hide hm1; clear hm1; obtain ⟨y1, z1, x1, r1, p1, o1⟩ := unhide HCE w1 (unhide HM1))
  go_ret
  exact ⟨rfl, unhide HD _ (unhide HM1)⟩

set_option maxRecDepth 100000 in
set_option maxHeartbeats 4000000 in
theorem bare_28 (W : World) (M : Nat) (v : Value) (l : List Nd) (n : Nat) (hN : Nodes W M v l) (hM : M ≤ W.heap.size) (hn : n < l.length) (hk : need (nd l n).kind ≤ (nd l n).kids.length) (hins : ∀ k ∈ (nd l n).kids, ins l k = true) (hkd : (nd l n).kind = 28) :
    Calls Tryz.prog 20 #[v, .int .i64 (n : Int)] W fun e w' => e = .returned (.bool (bareP l n)) ∧ Below W.heap.size W w' := by
  obtain ⟨W1, b, o, cap, rfl, hW1, H1, H2, HD, HCE, d0, t6, hl1⟩ := bare_setup W M v l n hN hM hn hk hins
  have H0 : Hid (∃ m, W1 = W1.drewN m) := ⟨0, rfl⟩
  obtain ⟨c1, c2, d2, t3, t4, t5⟩ := unhide HCE W1 (unhide H0)
  have t1 : (n : Int) < l.length := by omega
  have t2 : (0 : Int) ≤ (n : Int) := by omega
  have HW1 := hide hW1
  have hv : bareP l n = emptyK l n 1 := by simp [bareP, hkd]
  rw [hkd] at d0 H1 H2
  rw [hv]
  have H1' : Hid (∀ C, (∃ m, C = W1.drewN m) → _) := fun C hC => unhide H1 1 C hC (by decide)
  clear hv hkd hN hk hins hW1
  go_enter Tryz.func20, Tryz.ntmps20
  go_wp2_with (go_at_call 36; rw [unhide HW1]; refine (unhide H1' _ (unhide H0)).mono ?_; rintro e w1 ⟨rfl, hm1⟩; have HM1 := hide hm1; clear hm1; obtain ⟨y1, z1, x1, r1, p1, o1⟩ := unhide HCE w1 (unhide HM1))
  go_ret
  exact ⟨rfl, unhide HD _ (unhide HM1)⟩

set_option maxRecDepth 100000 in
set_option maxHeartbeats 4000000 in
theorem bare_40 (W : World) (M : Nat) (v : Value) (l : List Nd) (n : Nat) (hN : Nodes W M v l) (hM : M ≤ W.heap.size) (hn : n < l.length) (hk : need (nd l n).kind ≤ (nd l n).kids.length) (hins : ∀ k ∈ (nd l n).kids, ins l k = true) (hkd : (nd l n).kind = 40) :
    Calls Tryz.prog 20 #[v, .int .i64 (n : Int)] W fun e w' => e = .returned (.bool (bareP l n)) ∧ Below W.heap.size W w' := by
  obtain ⟨W1, b, o, cap, rfl, hW1, H1, H2, HD, HCE, d0, t6, hl1⟩ := bare_setup W M v l n hN hM hn hk hins
  have H0 : Hid (∃ m, W1 = W1.drewN m) := ⟨0, rfl⟩
  obtain ⟨c1, c2, d2, t3, t4, t5⟩ := unhide HCE W1 (unhide H0)
  have t1 : (n : Int) < l.length := by omega
  have t2 : (0 : Int) ≤ (n : Int) := by omega
  have HW1 := hide hW1
  have hv : bareP l n = noneK l n 0 := by simp [bareP, hkd]
  rw [hkd] at d0 H1 H2
  rw [hv]
  have H2' : Hid (∀ C, (∃ m, C = W1.drewN m) → _) := fun C hC => unhide H2 0 C hC (by decide)
  clear hv hkd hN hk hins hW1
  go_enter Tryz.func20, Tryz.ntmps20
  go_wp2_with (go_at_call 37; rw [unhide HW1]; refine (unhide H2' _ (unhide H0)).mono ?_; rintro e w1 ⟨rfl, hm1⟩; have HM1 := hide hm1; clear hm1; obtain ⟨y1, z1, x1, r1, p1, o1⟩ := unhide HCE w1 (unhide HM1))
  go_ret
  exact ⟨rfl, unhide HD _ (unhide HM1)⟩

set_option maxRecDepth 100000 in
set_option maxHeartbeats 4000000 in
theorem bare_66 (W : World) (M : Nat) (v : Value) (l : List Nd) (n : Nat) (hN : Nodes W M v l) (hM : M ≤ W.heap.size) (hn : n < l.length) (hk : need (nd l n).kind ≤ (nd l n).kids.length) (hins : ∀ k ∈ (nd l n).kids, ins l k = true) (hkd : (nd l n).kind = 66) :
    Calls Tryz.prog 20 #[v, .int .i64 (n : Int)] W fun e w' => e = .returned (.bool (bareP l n)) ∧ Below W.heap.size W w' := by
  obtain ⟨W1, b, o, cap, rfl, hW1, H1, H2, HD, HCE, d0, t6, hl1⟩ := bare_setup W M v l n hN hM hn hk hins
  have H0 : Hid (∃ m, W1 = W1.drewN m) := ⟨0, rfl⟩
  obtain ⟨c1, c2, d2, t3, t4, t5⟩ := unhide HCE W1 (unhide H0)
  have t1 : (n : Int) < l.length := by omega
  have t2 : (0 : Int) ≤ (n : Int) := by omega
  have HW1 := hide hW1
  have hv : bareP l n = (noneK l n 0 && (nd l n).num == 0) := by simp [bareP, hkd]
  rw [hkd] at d0 H1 H2
  rw [hv]
  have H2' : Hid (∀ C, (∃ m, C = W1.drewN m) → _) := fun C hC => unhide H2 0 C hC (by decide)
  clear hv hkd hN hk hins hW1
  obtain ⟨eb, hE⟩ : ∃ eb, noneK l n 0 = eb := ⟨_, rfl⟩
  rw [hE] at H2' ⊢
  have HE := hide hE
  clear hE
  cases eb with
  | true =>
    rw [Bool.true_and]
    obtain ⟨nu, hnu⟩ : ∃ nu, (nd l n).num = nu := ⟨_, rfl⟩
    rw [hnu] at HCE d2 ⊢
    clear hnu
    go_enter Tryz.func20, Tryz.ntmps20
    go_wp2_with (go_at_call 37; rw [unhide HW1]; refine (unhide H2' _ (unhide H0)).mono ?_; rintro e w1 ⟨rfl, hm1⟩; have HM1 := hide hm1; clear hm1; obtain ⟨y1, z1, x1, r1, p1, o1⟩ := unhide HCE w1 (unhide HM1))
    go_ret
    exact ⟨rfl, unhide HD _ (unhide HM1)⟩
  | false =>
    simp only [Bool.false_and]
    go_enter Tryz.func20, Tryz.ntmps20
    go_wp2_with (go_at_call 37; rw [unhide HW1]; refine (unhide H2' _ (unhide H0)).mono ?_; rintro e w1 ⟨rfl, hm1⟩; have HM1 := hide hm1; clear hm1; obtain ⟨y1, z1, x1, r1, p1, o1⟩ := unhide HCE w1 (unhide HM1))
    go_ret
    exact ⟨rfl, unhide HD _ (unhide HM1)⟩

set_option maxRecDepth 100000 in
set_option maxHeartbeats 4000000 in
theorem bare_44 (W : World) (M : Nat) (v : Value) (l : List Nd) (n : Nat) (hN : Nodes W M v l) (hM : M ≤ W.heap.size) (hn : n < l.length) (hk : need (nd l n).kind ≤ (nd l n).kids.length) (hins : ∀ k ∈ (nd l n).kids, ins l k = true) (hkd : (nd l n).kind = 44) :
    Calls Tryz.prog 20 #[v, .int .i64 (n : Int)] W fun e w' => e = .returned (.bool (bareP l n)) ∧ Below W.heap.size W w' := by
  obtain ⟨W1, b, o, cap, rfl, hW1, H1, H2, HD, HCE, d0, t6, hl1⟩ := bare_setup W M v l n hN hM hn hk hins
  have H0 : Hid (∃ m, W1 = W1.drewN m) := ⟨0, rfl⟩
  obtain ⟨c1, c2, d2, t3, t4, t5⟩ := unhide HCE W1 (unhide H0)
  have t1 : (n : Int) < l.length := by omega
  have t2 : (0 : Int) ≤ (n : Int) := by omega
  have HW1 := hide hW1
  have hv : bareP l n = (noneK l n 0 && (nd l n).num == 0 && !noneK l n 1) := by simp [bareP, hkd]
  rw [hkd] at d0 H1 H2
  rw [hv]
  have H2' : Hid (∀ C, (∃ m, C = W1.drewN m) → _) := fun C hC => unhide H2 0 C hC (by decide)
  clear hv hkd hN hk hins hW1
  obtain ⟨eb, hE⟩ : ∃ eb, noneK l n 0 = eb := ⟨_, rfl⟩
  rw [hE] at H2' ⊢
  have HE := hide hE
  clear hE
  cases eb with
  | true =>
    rw [Bool.true_and]
    obtain ⟨nu, hnu⟩ : ∃ nu, (nd l n).num = nu := ⟨_, rfl⟩
    rw [hnu] at HCE d2 ⊢
    clear hnu
    cases hZ : (nu == 0) with
    | true =>
      rw [Bool.true_and]
      go_enter Tryz.func20, Tryz.ntmps20
      go_wp2_with (first | (go_at_call_of 37 (Value.int .i64 (0 : Int)); rw [unhide HW1]; refine (unhide H2' _ (unhide H0)).mono ?_; rintro e w1 ⟨rfl, hm1⟩; have HM1 := hide hm1; clear hm1; obtain ⟨y1, z1, x1, r1, p1, o1⟩ := unhide HCE w1 (unhide HM1)) | (go_at_call_of 37 (Value.int .i64 (1 : Int)); refine (unhide H2 1 _ (unhide HM1) (by decide)).mono ?_; rintro e w2 ⟨rfl, hm2⟩; have HM2 := hide hm2; clear hm2; obtain ⟨y2, z2, x2, r2, p2, o2⟩ := unhide HCE w2 (unhide HM2)))
      go_ret
      exact ⟨rfl, unhide HD _ (unhide HM2)⟩
    | false =>
      rw [Bool.false_and]
      go_enter Tryz.func20, Tryz.ntmps20
      go_wp2_with (go_at_call 37; rw [unhide HW1]; refine (unhide H2' _ (unhide H0)).mono ?_; rintro e w1 ⟨rfl, hm1⟩; have HM1 := hide hm1; clear hm1; obtain ⟨y1, z1, x1, r1, p1, o1⟩ := unhide HCE w1 (unhide HM1))
      go_ret
      exact ⟨rfl, unhide HD _ (unhide HM1)⟩
  | false =>
    simp only [Bool.false_and]
    go_enter Tryz.func20, Tryz.ntmps20
    go_wp2_with (go_at_call 37; rw [unhide HW1]; refine (unhide H2' _ (unhide H0)).mono ?_; rintro e w1 ⟨rfl, hm1⟩; have HM1 := hide hm1; clear hm1; obtain ⟨y1, z1, x1, r1, p1, o1⟩ := unhide HCE w1 (unhide HM1))
    go_ret
    exact ⟨rfl, unhide HD _ (unhide HM1)⟩

set_option maxRecDepth 100000 in
set_option maxHeartbeats 4000000 in
theorem isBare_any (W : World) (M : Nat) (v : Value) (l : List Nd) (n : Nat) (hN : Nodes W M v l) (hM : M ≤ W.heap.size) (hn : n < l.length) (hk : need (nd l n).kind ≤ (nd l n).kids.length) (hins : ∀ k ∈ (nd l n).kids, ins l k = true) :
    Calls Tryz.prog 20 #[v, .int .i64 (n : Int)] W fun e w' => e = .returned (.bool (bareP l n)) ∧ Below W.heap.size W w' := by
  by_cases h22 : (nd l n).kind = 22
  · exact bare_22 W M v l n hN hM hn hk hins h22
  by_cases h43 : (nd l n).kind = 43
  · exact bare_43 W M v l n hN hM hn hk hins h43
  by_cases h41 : (nd l n).kind = 41
  · exact bare_41 W M v l n hN hM hn hk hins h41
  by_cases h45 : (nd l n).kind = 45
  · exact bare_45 W M v l n hN hM hn hk hins h45
  by_cases h42 : (nd l n).kind = 42
  · exact bare_42 W M v l n hN hM hn hk hins h42
  by_cases h27 : (nd l n).kind = 27
  · exact bare_27 W M v l n hN hM hn hk hins h27
  by_cases h28 : (nd l n).kind = 28
  · exact bare_28 W M v l n hN hM hn hk hins h28
  by_cases h40 : (nd l n).kind = 40
  · exact bare_40 W M v l n hN hM hn hk hins h40
  by_cases h66 : (nd l n).kind = 66
  · exact bare_66 W M v l n hN hM hn hk hins h66
  by_cases h44 : (nd l n).kind = 44
  · exact bare_44 W M v l n hN hM hn hk hins h44
  obtain ⟨W1, b, o, cap, rfl, hW1, H1, H2, HD, HCE, d0, t6, hl1⟩ := bare_setup W M v l n hN hM hn hk hins
  have H0 : Hid (∃ m, W1 = W1.drewN m) := ⟨0, rfl⟩
  obtain ⟨c1, c2, d2, t3, t4, t5⟩ := unhide HCE W1 (unhide H0)
  have t1 : (n : Int) < l.length := by omega
  have t2 : (0 : Int) ≤ (n : Int) := by omega
  have HW1 := hide hW1
  obtain ⟨kd, hkd⟩ : ∃ kd, (nd l n).kind = kd := ⟨_, rfl⟩
  have hv : bareP l n = true := by simp [bareP, h22, h43, h41, h45, h42, h27, h28, h40, h66, h44]
  rw [hkd] at d0 h22 h43 h41 h45 h42 h27 h28 h40 h66 h44
  have q22 : (kd == 22) = false := beq_eq_false_iff_ne.2 h22
  have q43 : (kd == 43) = false := beq_eq_false_iff_ne.2 h43
  have q41 : (kd == 41) = false := beq_eq_false_iff_ne.2 h41
  have q45 : (kd == 45) = false := beq_eq_false_iff_ne.2 h45
  have q42 : (kd == 42) = false := beq_eq_false_iff_ne.2 h42
  have q27 : (kd == 27) = false := beq_eq_false_iff_ne.2 h27
  have q28 : (kd == 28) = false := beq_eq_false_iff_ne.2 h28
  have q40 : (kd == 40) = false := beq_eq_false_iff_ne.2 h40
  have q66 : (kd == 66) = false := beq_eq_false_iff_ne.2 h66
  have q44 : (kd == 44) = false := beq_eq_false_iff_ne.2 h44
  rw [hv]
  clear hv hkd h22 h43 h41 h45 h42 h27 h28 h40 h66 h44 hN hk hins hW1
  go_enter Tryz.func20, Tryz.ntmps20
  go_wp2
  go_ret
  rw [unhide HW1]
  exact ⟨rfl, unhide HD _ (unhide H0)⟩
end Go.Proofs.YtnnpkomedpjlcaaGreatDoor

/- tree.Same. -/
import Derived.BigQuiet
import Derived.LoopN
import Derived.WalkSmall
import Derived.Test.YtoffpbaddehncaaGreatDoorT1
import Derived.Test.YtoffpbaddehncaaGreatDoorTK
/- slices.Equal over kids. -/
namespace Go.Proofs.YtoffpbaddehncaaGreatDoor
set_option linter.unusedSimpArgs false
set_option linter.unusedVariables false
open Go.RowKit

theorem getD_len_eq {x y : List Int} (hl : x.length = y.length) (h : ∀ j, j < x.length → x.getD j 0 = y.getD j 0) : x = y := by
  refine List.ext_getElem hl fun j h1 h2 => ?_
  have := h j h1
  simpa [List.getD_eq_getElem?_getD, List.getElem?_eq_getElem h1, List.getElem?_eq_getElem h2] using this

set_option maxRecDepth 100000 in
set_option maxHeartbeats 1000000 in
theorem kidsEq_any (W : World) (M : Nat) (a1 a2 : Option Addr) (x y : List Int) (c1 c2 : Nat) (h1 : KidsAt W M a1 x) (h2 : KidsAt W M a2 y) (hl1 : x.length ≤ 17592186044416) (hl2 : y.length ≤ 17592186044416) (hM : M ≤ W.heap.size) :
    Calls Tryz.prog 45 #[.slice a1 x.length c1, .slice a2 y.length c2] W fun e w' => e = .returned (.bool (decide (x = y))) ∧ Below W.heap.size W w' := by
  by_cases hl : x.length = y.length
  · have hl' : (x.length : Int) = y.length := by omega
    have HL := hide hl
    have H1 := hide h1
    have H2 := hide h2
    clear h1 h2
    have hne : (((x.length : Nat) : Int) != ((y.length : Nat) : Int)) = false := by simp [hl]
    go_enter Tryz.func45, Tryz.ntmps45
    go_wp2
    go_loopw [13] (fun t wr => ∃ i : Nat, i ≤ x.length ∧ t = .int .i64 (i : Int) ∧ (∀ j, j < i → x.getD j 0 = y.getD j 0) ∧ Below W.heap.size W wr) (fun t _ => x.length - (intOf t).toNat)
    case atStart => exact ⟨0, Nat.zero_le _, rfl, fun j h => by omega, Below.refl _ _⟩
    case round =>
      obtain ⟨i, hi, rfl, hu, hB⟩ := hrel
      have HU := hide hu
      clear hu
      by_cases hil : i < x.length
      · have hil' : (i : Int) < x.length := by omega
        have hil2 : (i : Int) < y.length := by omega
        have hk1 := unhide H1
        have hk2 := unhide H2
        rcases hk1 with hk1 | ⟨b1, o1, rfl, hb1, hk1⟩
        · subst hk1; simp at hil
        rcases hk2 with hk2 | ⟨b2, o2, rfl, hb2, hk2⟩
        · subst hk2; simp at hil2; omega
        have d1 := (hB.cell (p := ⟨b1, o1 + i, none⟩) (Nat.lt_of_lt_of_le hb1 hM)).trans (hk1 i hil)
        have d2 := (hB.cell (p := ⟨b2, o2 + i, none⟩) (Nat.lt_of_lt_of_le hb2 hM)).trans (hk2 i (by omega))
        clear hk1 hk2
        obtain ⟨k1, hk1⟩ : ∃ k, x.getD i 0 = k := ⟨_, rfl⟩
        obtain ⟨k2, hk2⟩ : ∃ k, y.getD i 0 = k := ⟨_, rfl⟩
        rw [hk1] at d1
        rw [hk2] at d2
        have HK1 := hide hk1
        have HK2 := hide hk2
        have HIL := hide hil
        clear hk1 hk2
        by_cases hkk : k1 = k2
        · have hkk' : (k1 != k2) = false := by simp [hkk]
          have HKK := hide hkk
          clear hkk
          go_wp2
          go_quiet (fail)
          go_wp2
          refine ⟨⟨i + 1, by omega, by go_num, fun j hj => ?_, (below_drewN hB _)⟩, by simp [intOf]; omega⟩
          by_cases hji : j = i
          · subst hji; rw [unhide HK1, unhide HK2, unhide HKK]
          · exact unhide HU j (by omega)
        · have hkk' : (k1 != k2) = true := by simp [hkk]
          have HF : Hid (decide (x = y) = false) := by
            show decide (x = y) = false
            refine decide_eq_false fun e => hkk ?_
            rw [← unhide HK1, ← unhide HK2, e]
          clear hkk
          go_wp2
          go_quiet (fail)
          go_wp2
          go_ret
          exact ⟨ret_b (unhide HF).symm, (below_drewN hB _)⟩
      · have hil' : ¬ (i : Int) < x.length := by omega
        obtain rfl : i = x.length := by omega
        have HF : Hid (decide (x = y) = true) := decide_eq_true (getD_len_eq (unhide HL) (unhide HU))
        go_wp2
        go_ret
        exact ⟨show Ending.returned (.bool true) = _ from ret_b (unhide HF).symm, hB⟩
  · have hne : (((x.length : Nat) : Int) != ((y.length : Nat) : Int)) = true := by simp; omega
    have HF : Hid (decide (x = y) = false) := decide_eq_false fun e => hl (by rw [e])
    clear hl h1 h2
    go_enter Tryz.func45, Tryz.ntmps45
    go_wp2
    go_ret
    exact ⟨show Ending.returned (.bool false) = _ from ret_b (unhide HF).symm, Below.refl _ _⟩
end Go.Proofs.YtoffpbaddehncaaGreatDoor

/- tree.Same in general. -/
namespace Go.Proofs.YtoffpbaddehncaaGreatDoor
set_option linter.unusedSimpArgs false
set_option linter.unusedVariables false
open Go.RowKit

/-- Two nodes but for At. -/
def nodeEq (x y : Nd) : Bool := (x.kind == y.kind) && (x.text.toList == y.text.toList) && (x.num == y.num) && decide (x.kids = y.kids)

set_option maxRecDepth 100000 in
set_option maxHeartbeats 1000000 in
theorem sameNode_any (W : World) (M : Nat) (x y : Nd) (a1 a2 : Option Addr) (c1 c2 : Nat) (h1 : KidsAt W M a1 x.kids) (h2 : KidsAt W M a2 y.kids) (hl1 : x.kids.length ≤ 17592186044416) (hl2 : y.kids.length ≤ 17592186044416) (hM : M ≤ W.heap.size) :
    Calls Tryz.prog 29 #[.agg #[.int .i64 x.kind, .string x.text, .int .i64 x.num, .slice a1 x.kids.length c1, .int .i64 x.at'], .agg #[.int .i64 y.kind, .string y.text, .int .i64 y.num, .slice a2 y.kids.length c2, .int .i64 y.at']] W fun e w' => e = .returned (.bool (nodeEq x y)) ∧ Below W.heap.size W w' := by
  have HC : Hid (∀ W', Below W.heap.size W W' → Calls Tryz.prog 45 #[.slice a1 x.kids.length c1, .slice a2 y.kids.length c2] W' fun e w' => e = .returned (.bool (decide (x.kids = y.kids))) ∧ Below W'.heap.size W' w') :=
    fun W' hB => kidsEq_any W' M a1 a2 _ _ c1 c2 (h1.keep hB hM) (h2.keep hB hM) hl1 hl2 (Nat.le_trans hM hB.size)
  clear h1 h2
  cases e1 : (x.kind == y.kind) with
  | false =>
    have HR : Hid (nodeEq x y = false) := by show nodeEq x y = false; simp only [nodeEq, e1]; rfl
    go_enter Tryz.func29, Tryz.ntmps29
    go_wp2
    go_ret
    exact ⟨show Ending.returned (.bool false) = _ from ret_b (unhide HR).symm, ((Below.refl _ W).alloc (Nat.le_refl _) _).alloc (by simp) _⟩
  | true =>
    cases e2 : (x.text.toList == y.text.toList) with
    | false =>
      have HR : Hid (nodeEq x y = false) := by show nodeEq x y = false; simp only [nodeEq, e1, e2]; rfl
      go_enter Tryz.func29, Tryz.ntmps29
      go_wp2
      go_ret
      exact ⟨show Ending.returned (.bool false) = _ from ret_b (unhide HR).symm, ((Below.refl _ W).alloc (Nat.le_refl _) _).alloc (by simp) _⟩
    | true =>
      cases e3 : (x.num == y.num) with
      | false =>
        have HR : Hid (nodeEq x y = false) := by show nodeEq x y = false; simp only [nodeEq, e1, e2, e3]; rfl
        go_enter Tryz.func29, Tryz.ntmps29
        go_wp2
        go_ret
        exact ⟨show Ending.returned (.bool false) = _ from ret_b (unhide HR).symm, ((Below.refl _ W).alloc (Nat.le_refl _) _).alloc (by simp) _⟩
      | true =>
        have HR : Hid (nodeEq x y = decide (x.kids = y.kids)) := by show nodeEq x y = _; simp only [nodeEq, e1, e2, e3, Bool.true_and]
        go_enter Tryz.func29, Tryz.ntmps29
        go_wp2_with (go_at_call 45; refine (unhide HC _ (((Below.refl _ W).alloc (Nat.le_refl _) _).alloc (by simp) _)).mono ?_; rintro e w1 ⟨rfl, hB1⟩)
        go_ret
        exact ⟨ret_b (unhide HR).symm, (((Below.refl _ W).alloc (Nat.le_refl _) _).alloc (by simp) _).trans (hB1.mono (by simp; omega))⟩

/-- Two rows of nodes but for their At. -/
def sameT : List Nd → List Nd → Bool
  | [], [] => true
  | x :: l, y :: m => nodeEq x y && sameT l m
  | _, _ => false
theorem sameT_len : ∀ {l m : List Nd}, sameT l m = true → l.length = m.length
  | [], [], _ => rfl
  | x :: l, y :: m, h => by
    have : sameT l m = true := by have h' : (nodeEq x y && sameT l m) = true := h; simp at h'; exact h'.2
    simp [sameT_len this]
theorem sameT_iff : ∀ {l m : List Nd}, l.length = m.length → (sameT l m = true ↔ ∀ j, j < l.length → nodeEq (nd l j) (nd m j) = true)
  | [], [], _ => by simp [sameT]
  | x :: l, y :: m, hl => by
    have hl' : l.length = m.length := by simpa using hl
    show (nodeEq x y && sameT l m) = true ↔ _
    rw [Bool.and_eq_true, sameT_iff hl']
    constructor
    · rintro ⟨h0, h⟩ j hj
      cases j with
      | zero => exact h0
      | succ j => exact h j (by simpa using hj)
    · intro h
      exact ⟨h 0 (by simp), fun j hj => h (j + 1) (by simpa using hj)⟩

set_option maxRecDepth 100000 in
set_option maxHeartbeats 2000000 in
theorem equalFunc_any (W : World) (M : Nat) (v v' : Value) (l m : List Nd) (hN : Nodes W M v l) (hN' : Nodes W M v' m) (hM : M ≤ W.heap.size) :
    Calls Tryz.prog 28 #[v, v', .func (.func 29) #[] #[]] W fun e w' => e = .returned (.bool (sameT l m)) ∧ Below W.heap.size W w' := by
  have HN := hide hN
  have HN' := hide hN'
  have hl1 := hN.1
  have hl2 := hN'.1
  obtain ⟨a, cap, rfl, _, _⟩ := hN.len
  obtain ⟨a', cap', rfl, _, _⟩ := hN'.len
  clear hN hN'
  by_cases hl : l.length = m.length
  · have hne : (((l.length : Nat) : Int) != ((m.length : Nat) : Int)) = false := by simp [hl]
    have HL := hide hl
    clear hl
    go_enter Tryz.func28, Tryz.ntmps28
    go_wp2
    go_loopw [17] (fun t wr => ∃ i : Nat, i ≤ l.length ∧ t = .int .i64 (i : Int) ∧ (∀ j, j < i → nodeEq (nd l j) (nd m j) = true) ∧ Below W.heap.size W wr) (fun t _ => l.length - (intOf t).toNat)
    case atStart => exact ⟨0, Nat.zero_le _, rfl, fun j h => by omega, Below.refl _ _⟩
    case round =>
      obtain ⟨i, hi, rfl, hu, hB⟩ := hrel
      have HU := hide hu
      clear hu
      by_cases hil : i < l.length
      · have hil' : (i : Int) < l.length := by omega
        have him : i < m.length := by have := unhide HL; omega
        have him' : (i : Int) < m.length := by omega
        have hwr := hB.size
        obtain ⟨b, o, cap0, ka, kc, hv, _, _, hb, d0, d1, d2, d3, d4, _, _, hK⟩ := ((unhide HN).keep hB hM).at hil
        obtain ⟨b', o', cap0', ka', kc', hv', _, _, hb', e0, e1, e2, e3, e4, _, _, hK'⟩ := ((unhide HN').keep hB hM).at him
        cases hv
        cases hv'
        have hkl := ((unhide HN).2.1 i hil).2
        have hkl' := ((unhide HN').2.1 i him).2
        have hbl : b < wr.heap.size := by omega
        have hbl' : b' < wr.heap.size := by omega
        have HIL := hide hil
        obtain ⟨x, hx⟩ : ∃ x, nd l i = x := ⟨_, rfl⟩
        obtain ⟨y, hy⟩ : ∃ y, nd m i = y := ⟨_, rfl⟩
        rw [hx] at d0 d1 d2 d3 d4 hK hkl
        rw [hy] at e0 e1 e2 e3 e4 hK' hkl'
        have HX := hide hx
        have HY := hide hy
        clear hx hy
        have HC : Hid (∀ W', Below wr.heap.size wr W' → Calls Tryz.prog 29 #[.agg #[.int .i64 x.kind, .string x.text, .int .i64 x.num, .slice ka x.kids.length kc, .int .i64 x.at'], .agg #[.int .i64 y.kind, .string y.text, .int .i64 y.num, .slice ka' y.kids.length kc', .int .i64 y.at']] W' fun e w' => e = .returned (.bool (nodeEq x y)) ∧ Below W'.heap.size W' w') :=
          fun W' h => sameNode_any W' M x y ka ka' kc kc' (hK.keep h (by omega)) (hK'.keep h (by omega)) hkl hkl' (Nat.le_trans (by omega) h.size)
        clear hK hK' hkl hkl'
        cases hq : nodeEq x y with
        | false =>
          have HF : Hid (sameT l m = false) := by
            show sameT l m = false
            rw [Bool.eq_false_iff]
            intro e
            have := (sameT_iff (unhide HL)).1 e i (unhide HIL)
            rw [unhide HX, unhide HY, hq] at this
            cases this
          have HQ := hide hq
          clear hq
          go_wp2_with (go_at_call 29; refine (unhide HC _ (((Below.refl _ wr).alloc (Nat.le_refl _) _).alloc (by simp) _)).mono ?_; rw [unhide HQ]; rintro e w3 ⟨rfl, hB3⟩)
          go_ret
          exact ⟨ret_b (unhide HF).symm, hB.trans ((((Below.refl _ wr).alloc (Nat.le_refl _) _).alloc (by simp) _).mono hwr |>.trans (hB3.mono (by simp; omega)))⟩
        | true =>
          have HQ := hide hq
          clear hq
          go_wp2_with (go_at_call 29; refine (unhide HC _ (((Below.refl _ wr).alloc (Nat.le_refl _) _).alloc (by simp) _)).mono ?_; rw [unhide HQ]; rintro e w3 ⟨rfl, hB3⟩)
          refine ⟨⟨i + 1, by omega, by go_num, fun j hj => ?_, hB.trans ((((Below.refl _ wr).alloc (Nat.le_refl _) _).alloc (by simp) _).mono hwr |>.trans (hB3.mono (by simp; omega)))⟩, by simp [intOf]; omega⟩
          by_cases hji : j = i
          · subst hji; rw [unhide HX, unhide HY, unhide HQ]
          · exact unhide HU j (by omega)
      · have hil' : ¬ (i : Int) < l.length := by omega
        obtain rfl : i = l.length := by omega
        have HF : Hid (sameT l m = true) := (sameT_iff (unhide HL)).2 (unhide HU)
        go_wp2
        go_ret
        exact ⟨show Ending.returned (.bool true) = _ from ret_b (unhide HF).symm, hB⟩
  · have hne : (((l.length : Nat) : Int) != ((m.length : Nat) : Int)) = true := by simp; omega
    have HF : Hid (sameT l m = false) := by
      show sameT l m = false
      rw [Bool.eq_false_iff]
      exact fun e => hl (sameT_len e)
    clear hl
    go_enter Tryz.func28, Tryz.ntmps28
    go_wp2
    go_ret
    exact ⟨show Ending.returned (.bool false) = _ from ret_b (unhide HF).symm, Below.refl _ _⟩

set_option maxRecDepth 100000 in
set_option maxHeartbeats 2000000 in
theorem same_any (W : World) (M : Nat) (v v' : Value) (l m : List Nd) (hN : Nodes W M v l) (hN' : Nodes W M v' m) (hM : M ≤ W.heap.size) :
    Calls Tryz.prog 11 #[.agg #[v], .agg #[v']] W fun e w' => e = .returned (.bool (sameT l m)) ∧ Below W.heap.size W w' := by
  have HC : Hid (∀ W', Below W.heap.size W W' → Calls Tryz.prog 28 #[v, v', .func (.func 29) #[] #[]] W' fun e w' => e = .returned (.bool (sameT l m)) ∧ Below W'.heap.size W' w') :=
    fun W' hB => equalFunc_any W' M v v' l m (hN.keep hB hM) (hN'.keep hB hM) (Nat.le_trans hM hB.size)
  obtain ⟨a, cap, rfl, _, _⟩ := hN.len
  obtain ⟨a', cap', rfl, _, _⟩ := hN'.len
  clear hN hN'
  go_enter Tryz.func11, Tryz.ntmps11
  go_wp2_with (go_at_call 28; refine (unhide HC _ (((Below.refl _ W).alloc (Nat.le_refl _) _).alloc (by simp) _)).mono ?_; rintro e w1 ⟨rfl, hB1⟩)
  go_ret
  exact ⟨rfl, (((Below.refl _ W).alloc (Nat.le_refl _) _).alloc (by simp) _).trans (hB1.mono (by simp; omega))⟩
end Go.Proofs.YtoffpbaddehncaaGreatDoor

/- Merged: TT, M5, KQ1, KQ2, KQ3, KO, KP, KQ4, KT, KU. -/
import Derived.BigQuiet
import Derived.ChangeOld
import Derived.LaidMore
import Derived.LoopN
import Derived.OpenShut
import Derived.OwnWalk
import Derived.ProofKit
import Derived.ShutString
import Derived.SizedLaws
import Derived.Stop.Joined
import Derived.WalkSmall
import Derived.Test.YtnnpkomedpjlcaaGreatDoorKK
import Derived.Test.YtnnpkomedpjlcaaGreatDoorKMa
import Derived.Test.YtnnpkomedpjlcaaGreatDoorKZ
import Derived.Test.YtnnpkomedpjlcaaGreatDoorM4
import Derived.Test.YtnnpkomedpjlcaaGreatDoorT1
import Derived.Test.YtnnpkomedpjlcaaGreatDoorTK
import Derived.Test.YtnnpkomedpjlcaaGreatDoorTie
/- tree.Same. -/
/- slices.Equal over kids. -/
namespace Go.Proofs.YtnnpkomedpjlcaaGreatDoor
set_option linter.unusedSimpArgs false
set_option linter.unusedVariables false
open Go.RowKit

theorem getD_len_eq {x y : List Int} (hl : x.length = y.length) (h : ∀ j, j < x.length → x.getD j 0 = y.getD j 0) : x = y := by
  refine List.ext_getElem hl fun j h1 h2 => ?_
  have := h j h1
  simpa [List.getD_eq_getElem?_getD, List.getElem?_eq_getElem h1, List.getElem?_eq_getElem h2] using this

set_option maxRecDepth 100000 in
set_option maxHeartbeats 1000000 in
theorem kidsEq_any (W : World) (M : Nat) (a1 a2 : Option Addr) (x y : List Int) (c1 c2 : Nat) (h1 : KidsAt W M a1 x) (h2 : KidsAt W M a2 y) (hl1 : x.length ≤ 17592186044416) (hl2 : y.length ≤ 17592186044416) (hM : M ≤ W.heap.size) :
    Calls Tryz.prog 51 #[.slice a1 x.length c1, .slice a2 y.length c2] W fun e w' => e = .returned (.bool (decide (x = y))) ∧ Below W.heap.size W w' := by
  by_cases hl : x.length = y.length
  · have hl' : (x.length : Int) = y.length := by omega
    have HL := hide hl
    have H1 := hide h1
    have H2 := hide h2
    clear h1 h2
    have hne : (((x.length : Nat) : Int) != ((y.length : Nat) : Int)) = false := by simp [hl]
    go_enter Tryz.func51, Tryz.ntmps51
    go_wp2
    go_loopw [13] (fun t wr => ∃ i : Nat, i ≤ x.length ∧ t = .int .i64 (i : Int) ∧ (∀ j, j < i → x.getD j 0 = y.getD j 0) ∧ Below W.heap.size W wr) (fun t _ => x.length - (intOf t).toNat)
    case atStart => exact ⟨0, Nat.zero_le _, rfl, fun j h => by omega, Below.refl _ _⟩
    case round =>
      obtain ⟨i, hi, rfl, hu, hB⟩ := hrel
      have HU := hide hu
      clear hu
      by_cases hil : i < x.length
      · have hil' : (i : Int) < x.length := by omega
        have hil2 : (i : Int) < y.length := by omega
        have hk1 := unhide H1
        have hk2 := unhide H2
        rcases hk1 with hk1 | ⟨b1, o1, rfl, hb1, hk1⟩
        · subst hk1; simp at hil
        rcases hk2 with hk2 | ⟨b2, o2, rfl, hb2, hk2⟩
        · subst hk2; simp at hil2; omega
        have d1 := (hB.cell (p := ⟨b1, o1 + i, none⟩) (Nat.lt_of_lt_of_le hb1 hM)).trans (hk1 i hil)
        have d2 := (hB.cell (p := ⟨b2, o2 + i, none⟩) (Nat.lt_of_lt_of_le hb2 hM)).trans (hk2 i (by omega))
        clear hk1 hk2
        obtain ⟨k1, hk1⟩ : ∃ k, x.getD i 0 = k := ⟨_, rfl⟩
        obtain ⟨k2, hk2⟩ : ∃ k, y.getD i 0 = k := ⟨_, rfl⟩
        rw [hk1] at d1
        rw [hk2] at d2
        have HK1 := hide hk1
        have HK2 := hide hk2
        have HIL := hide hil
        clear hk1 hk2
        by_cases hkk : k1 = k2
        · have hkk' : (k1 != k2) = false := by simp [hkk]
          have HKK := hide hkk
          clear hkk
          go_wp2
          go_quiet (fail)
          go_wp2
          refine ⟨⟨i + 1, by omega, by go_num, fun j hj => ?_, (below_drewN hB _)⟩, by simp [intOf]; omega⟩
          by_cases hji : j = i
          · subst hji; rw [unhide HK1, unhide HK2, unhide HKK]
          · exact unhide HU j (by omega)
        · have hkk' : (k1 != k2) = true := by simp [hkk]
          have HF : Hid (decide (x = y) = false) := by
            show decide (x = y) = false
            refine decide_eq_false fun e => hkk ?_
            rw [← unhide HK1, ← unhide HK2, e]
          clear hkk
          go_wp2
          go_quiet (fail)
          go_wp2
          go_ret
          exact ⟨ret_b (unhide HF).symm, (below_drewN hB _)⟩
      · have hil' : ¬ (i : Int) < x.length := by omega
        obtain rfl : i = x.length := by omega
        have HF : Hid (decide (x = y) = true) := decide_eq_true (getD_len_eq (unhide HL) (unhide HU))
        go_wp2
        go_ret
        exact ⟨show Ending.returned (.bool true) = _ from ret_b (unhide HF).symm, hB⟩
  · have hne : (((x.length : Nat) : Int) != ((y.length : Nat) : Int)) = true := by simp; omega
    have HF : Hid (decide (x = y) = false) := decide_eq_false fun e => hl (by rw [e])
    clear hl h1 h2
    go_enter Tryz.func51, Tryz.ntmps51
    go_wp2
    go_ret
    exact ⟨show Ending.returned (.bool false) = _ from ret_b (unhide HF).symm, Below.refl _ _⟩
end Go.Proofs.YtnnpkomedpjlcaaGreatDoor

/- tree.Same in general. -/
namespace Go.Proofs.YtnnpkomedpjlcaaGreatDoor
set_option linter.unusedSimpArgs false
set_option linter.unusedVariables false
open Go.RowKit

/-- Two nodes but for At. -/
def nodeEq (x y : Nd) : Bool := (x.kind == y.kind) && (x.text.toList == y.text.toList) && (x.num == y.num) && decide (x.kids = y.kids)

set_option maxRecDepth 100000 in
set_option maxHeartbeats 1000000 in
theorem sameNode_any (W : World) (M : Nat) (x y : Nd) (a1 a2 : Option Addr) (c1 c2 : Nat) (h1 : KidsAt W M a1 x.kids) (h2 : KidsAt W M a2 y.kids) (hl1 : x.kids.length ≤ 17592186044416) (hl2 : y.kids.length ≤ 17592186044416) (hM : M ≤ W.heap.size) :
    Calls Tryz.prog 31 #[.agg #[.int .i64 x.kind, .string x.text, .int .i64 x.num, .slice a1 x.kids.length c1, .int .i64 x.at'], .agg #[.int .i64 y.kind, .string y.text, .int .i64 y.num, .slice a2 y.kids.length c2, .int .i64 y.at']] W fun e w' => e = .returned (.bool (nodeEq x y)) ∧ Below W.heap.size W w' := by
  have HC : Hid (∀ W', Below W.heap.size W W' → Calls Tryz.prog 51 #[.slice a1 x.kids.length c1, .slice a2 y.kids.length c2] W' fun e w' => e = .returned (.bool (decide (x.kids = y.kids))) ∧ Below W'.heap.size W' w') :=
    fun W' hB => kidsEq_any W' M a1 a2 _ _ c1 c2 (h1.keep hB hM) (h2.keep hB hM) hl1 hl2 (Nat.le_trans hM hB.size)
  clear h1 h2
  cases e1 : (x.kind == y.kind) with
  | false =>
    have HR : Hid (nodeEq x y = false) := by show nodeEq x y = false; simp only [nodeEq, e1]; rfl
    go_enter Tryz.func31, Tryz.ntmps31
    go_wp2
    go_ret
    exact ⟨show Ending.returned (.bool false) = _ from ret_b (unhide HR).symm, ((Below.refl _ W).alloc (Nat.le_refl _) _).alloc (by simp) _⟩
  | true =>
    cases e2 : (x.text.toList == y.text.toList) with
    | false =>
      have HR : Hid (nodeEq x y = false) := by show nodeEq x y = false; simp only [nodeEq, e1, e2]; rfl
      go_enter Tryz.func31, Tryz.ntmps31
      go_wp2
      go_ret
      exact ⟨show Ending.returned (.bool false) = _ from ret_b (unhide HR).symm, ((Below.refl _ W).alloc (Nat.le_refl _) _).alloc (by simp) _⟩
    | true =>
      cases e3 : (x.num == y.num) with
      | false =>
        have HR : Hid (nodeEq x y = false) := by show nodeEq x y = false; simp only [nodeEq, e1, e2, e3]; rfl
        go_enter Tryz.func31, Tryz.ntmps31
        go_wp2
        go_ret
        exact ⟨show Ending.returned (.bool false) = _ from ret_b (unhide HR).symm, ((Below.refl _ W).alloc (Nat.le_refl _) _).alloc (by simp) _⟩
      | true =>
        have HR : Hid (nodeEq x y = decide (x.kids = y.kids)) := by show nodeEq x y = _; simp only [nodeEq, e1, e2, e3, Bool.true_and]
        go_enter Tryz.func31, Tryz.ntmps31
        go_wp2_with (go_at_call 51; refine (unhide HC _ (((Below.refl _ W).alloc (Nat.le_refl _) _).alloc (by simp) _)).mono ?_; rintro e w1 ⟨rfl, hB1⟩)
        go_ret
        exact ⟨ret_b (unhide HR).symm, (((Below.refl _ W).alloc (Nat.le_refl _) _).alloc (by simp) _).trans (hB1.mono (by simp; omega))⟩

/-- Two rows of nodes but for their At. -/
def sameT : List Nd → List Nd → Bool
  | [], [] => true
  | x :: l, y :: m => nodeEq x y && sameT l m
  | _, _ => false
theorem sameT_len : ∀ {l m : List Nd}, sameT l m = true → l.length = m.length
  | [], [], _ => rfl
  | x :: l, y :: m, h => by
    have : sameT l m = true := by have h' : (nodeEq x y && sameT l m) = true := h; simp at h'; exact h'.2
    simp [sameT_len this]
theorem sameT_iff : ∀ {l m : List Nd}, l.length = m.length → (sameT l m = true ↔ ∀ j, j < l.length → nodeEq (nd l j) (nd m j) = true)
  | [], [], _ => by simp [sameT]
  | x :: l, y :: m, hl => by
    have hl' : l.length = m.length := by simpa using hl
    show (nodeEq x y && sameT l m) = true ↔ _
    rw [Bool.and_eq_true, sameT_iff hl']
    constructor
    · rintro ⟨h0, h⟩ j hj
      cases j with
      | zero => exact h0
      | succ j => exact h j (by simpa using hj)
    · intro h
      exact ⟨h 0 (by simp), fun j hj => h (j + 1) (by simpa using hj)⟩

set_option maxRecDepth 100000 in
set_option maxHeartbeats 2000000 in
theorem equalFunc_any (W : World) (M : Nat) (v v' : Value) (l m : List Nd) (hN : Nodes W M v l) (hN' : Nodes W M v' m) (hM : M ≤ W.heap.size) :
    Calls Tryz.prog 30 #[v, v', .func (.func 31) #[] #[]] W fun e w' => e = .returned (.bool (sameT l m)) ∧ Below W.heap.size W w' := by
  have HN := hide hN
  have HN' := hide hN'
  have hl1 := hN.1
  have hl2 := hN'.1
  obtain ⟨a, cap, rfl, _, _⟩ := hN.len
  obtain ⟨a', cap', rfl, _, _⟩ := hN'.len
  clear hN hN'
  by_cases hl : l.length = m.length
  · have hne : (((l.length : Nat) : Int) != ((m.length : Nat) : Int)) = false := by simp [hl]
    have HL := hide hl
    clear hl
    go_enter Tryz.func30, Tryz.ntmps30
    go_wp2
    go_loopw [17] (fun t wr => ∃ i : Nat, i ≤ l.length ∧ t = .int .i64 (i : Int) ∧ (∀ j, j < i → nodeEq (nd l j) (nd m j) = true) ∧ Below W.heap.size W wr) (fun t _ => l.length - (intOf t).toNat)
    case atStart => exact ⟨0, Nat.zero_le _, rfl, fun j h => by omega, Below.refl _ _⟩
    case round =>
      obtain ⟨i, hi, rfl, hu, hB⟩ := hrel
      have HU := hide hu
      clear hu
      by_cases hil : i < l.length
      · have hil' : (i : Int) < l.length := by omega
        have him : i < m.length := by have := unhide HL; omega
        have him' : (i : Int) < m.length := by omega
        have hwr := hB.size
        obtain ⟨b, o, cap0, ka, kc, hv, _, _, hb, d0, d1, d2, d3, d4, _, _, hK⟩ := ((unhide HN).keep hB hM).at hil
        obtain ⟨b', o', cap0', ka', kc', hv', _, _, hb', e0, e1, e2, e3, e4, _, _, hK'⟩ := ((unhide HN').keep hB hM).at him
        cases hv
        cases hv'
        have hkl := ((unhide HN).2.1 i hil).2
        have hkl' := ((unhide HN').2.1 i him).2
        have hbl : b < wr.heap.size := by omega
        have hbl' : b' < wr.heap.size := by omega
        have HIL := hide hil
        obtain ⟨x, hx⟩ : ∃ x, nd l i = x := ⟨_, rfl⟩
        obtain ⟨y, hy⟩ : ∃ y, nd m i = y := ⟨_, rfl⟩
        rw [hx] at d0 d1 d2 d3 d4 hK hkl
        rw [hy] at e0 e1 e2 e3 e4 hK' hkl'
        have HX := hide hx
        have HY := hide hy
        clear hx hy
        have HC : Hid (∀ W', Below wr.heap.size wr W' → Calls Tryz.prog 31 #[.agg #[.int .i64 x.kind, .string x.text, .int .i64 x.num, .slice ka x.kids.length kc, .int .i64 x.at'], .agg #[.int .i64 y.kind, .string y.text, .int .i64 y.num, .slice ka' y.kids.length kc', .int .i64 y.at']] W' fun e w' => e = .returned (.bool (nodeEq x y)) ∧ Below W'.heap.size W' w') :=
          fun W' h => sameNode_any W' M x y ka ka' kc kc' (hK.keep h (by omega)) (hK'.keep h (by omega)) hkl hkl' (Nat.le_trans (by omega) h.size)
        clear hK hK' hkl hkl'
        cases hq : nodeEq x y with
        | false =>
          have HF : Hid (sameT l m = false) := by
            show sameT l m = false
            rw [Bool.eq_false_iff]
            intro e
            have := (sameT_iff (unhide HL)).1 e i (unhide HIL)
            rw [unhide HX, unhide HY, hq] at this
            cases this
          have HQ := hide hq
          clear hq
          go_wp2_with (go_at_call 31; refine (unhide HC _ (((Below.refl _ wr).alloc (Nat.le_refl _) _).alloc (by simp) _)).mono ?_; rw [unhide HQ]; rintro e w3 ⟨rfl, hB3⟩)
          go_ret
          exact ⟨ret_b (unhide HF).symm, hB.trans ((((Below.refl _ wr).alloc (Nat.le_refl _) _).alloc (by simp) _).mono hwr |>.trans (hB3.mono (by simp; omega)))⟩
        | true =>
          have HQ := hide hq
          clear hq
          go_wp2_with (go_at_call 31; refine (unhide HC _ (((Below.refl _ wr).alloc (Nat.le_refl _) _).alloc (by simp) _)).mono ?_; rw [unhide HQ]; rintro e w3 ⟨rfl, hB3⟩)
          refine ⟨⟨i + 1, by omega, by go_num, fun j hj => ?_, hB.trans ((((Below.refl _ wr).alloc (Nat.le_refl _) _).alloc (by simp) _).mono hwr |>.trans (hB3.mono (by simp; omega)))⟩, by simp [intOf]; omega⟩
          by_cases hji : j = i
          · subst hji; rw [unhide HX, unhide HY, unhide HQ]
          · exact unhide HU j (by omega)
      · have hil' : ¬ (i : Int) < l.length := by omega
        obtain rfl : i = l.length := by omega
        have HF : Hid (sameT l m = true) := (sameT_iff (unhide HL)).2 (unhide HU)
        go_wp2
        go_ret
        exact ⟨show Ending.returned (.bool true) = _ from ret_b (unhide HF).symm, hB⟩
  · have hne : (((l.length : Nat) : Int) != ((m.length : Nat) : Int)) = true := by simp; omega
    have HF : Hid (sameT l m = false) := by
      show sameT l m = false
      rw [Bool.eq_false_iff]
      exact fun e => hl (sameT_len e)
    clear hl
    go_enter Tryz.func30, Tryz.ntmps30
    go_wp2
    go_ret
    exact ⟨show Ending.returned (.bool false) = _ from ret_b (unhide HF).symm, Below.refl _ _⟩

set_option maxRecDepth 100000 in
set_option maxHeartbeats 2000000 in
theorem same_any (W : World) (M : Nat) (v v' : Value) (l m : List Nd) (hN : Nodes W M v l) (hN' : Nodes W M v' m) (hM : M ≤ W.heap.size) :
    Calls Tryz.prog 16 #[.agg #[v], .agg #[v']] W fun e w' => e = .returned (.bool (sameT l m)) ∧ Below W.heap.size W w' := by
  have HC : Hid (∀ W', Below W.heap.size W W' → Calls Tryz.prog 30 #[v, v', .func (.func 31) #[] #[]] W' fun e w' => e = .returned (.bool (sameT l m)) ∧ Below W'.heap.size W' w') :=
    fun W' hB => equalFunc_any W' M v v' l m (hN.keep hB hM) (hN'.keep hB hM) (Nat.le_trans hM hB.size)
  obtain ⟨a, cap, rfl, _, _⟩ := hN.len
  obtain ⟨a', cap', rfl, _, _⟩ := hN'.len
  clear hN hN'
  go_enter Tryz.func16, Tryz.ntmps16
  go_wp2_with (go_at_call 30; refine (unhide HC _ (((Below.refl _ W).alloc (Nat.le_refl _) _).alloc (by simp) _)).mono ?_; rintro e w1 ⟨rfl, hB1⟩)
  go_ret
  exact ⟨rfl, (((Below.refl _ W).alloc (Nat.le_refl _) _).alloc (by simp) _).trans (hB1.mono (by simp; omega))⟩
end Go.Proofs.YtnnpkomedpjlcaaGreatDoor

/- Nodes as long as a call reaches; a tree that came in, opened. -/
/- Rows of nodes as long as a call can reach; shucklaw3.great over them. -/
namespace Go.Proofs.YtnnpkomedpjlcaaGreatDoor
set_option linter.unusedSimpArgs false
set_option linter.unusedVariables false
open Go.RowKit Go.Shelf

/-- A row of nodes, its texts as long as a call can reach. -/
def NodesR (W : World) (M : Nat) (v : Value) (l : List Nd) : Prop :=
  l.length ≤ 2199023255552 ∧ (∀ j, j < l.length → (nd l j).text.size ≤ 140737488351232 ∧ (nd l j).kids.length ≤ 17592186044416) ∧
  ∃ a cap, v = .slice a l.length cap ∧ l.length ≤ cap ∧ cap ≤ maxLen ∧ (l = [] ∨ ∃ b o, a = some ⟨b, o, none⟩ ∧ b < M ∧ ∀ j, j < l.length → NdAt W M b (o + j * 5) (nd l j))
theorem NodesR.keep {W W' : World} {M N : Nat} {v : Value} {l : List Nd} (h : NodesR W M v l) (hB : Below N W W') (hn : M ≤ N) : NodesR W' M v l := by
  obtain ⟨hl, hs, a, cap, hv, hc, hm, h⟩ := h
  refine ⟨hl, hs, a, cap, hv, hc, hm, ?_⟩
  rcases h with h | ⟨b, o, ha, hb, h⟩
  · exact .inl h
  · exact .inr ⟨b, o, ha, hb, fun j hj => (h j hj).keep hb hB hn⟩
theorem NodesR.len {W : World} {M : Nat} {v : Value} {l : List Nd} (h : NodesR W M v l) : ∃ a cap, v = .slice a l.length cap ∧ l.length ≤ cap ∧ cap ≤ maxLen := by
  obtain ⟨_, _, a, cap, hv, hc, hm, _⟩ := h
  exact ⟨a, cap, hv, hc, hm⟩
theorem NodesR.at {W : World} {M : Nat} {v : Value} {l : List Nd} (h : NodesR W M v l) {n : Nat} (hn : n < l.length) :
    ∃ b o cap ka kc, v = .slice (some ⟨b, o, none⟩) l.length cap ∧ l.length ≤ cap ∧ cap ≤ maxLen ∧ b < M ∧ W.cell? ⟨b, o + n * 5, none⟩ = some (.int .i64 (nd l n).kind) ∧ W.cell? ⟨b, o + n * 5 + 1, none⟩ = some (.string (nd l n).text) ∧ W.cell? ⟨b, o + n * 5 + 2, none⟩ = some (.int .i64 (nd l n).num) ∧
      W.cell? ⟨b, o + n * 5 + 3, none⟩ = some (.slice ka (nd l n).kids.length kc) ∧ W.cell? ⟨b, o + n * 5 + 4, none⟩ = some (.int .i64 (nd l n).at') ∧ (nd l n).kids.length ≤ kc ∧ kc ≤ maxLen ∧ KidsAt W M ka (nd l n).kids := by
  obtain ⟨hl, hs, a, cap, rfl, hc, hm, h⟩ := h
  rcases h with rfl | ⟨b, o, rfl, hb, h⟩
  · simp at hn
  · obtain ⟨h0, h1, h2, ⟨ka, kc, h3, hkc, hkm, hk⟩, h4⟩ := h n hn
    exact ⟨b, o, cap, ka, kc, rfl, hc, hm, hb, h0, h1, h2, h3, h4, hkc, hkm, hk⟩
/-- What is not great is a row of nodes. -/
theorem NodesR.nodes {W : World} {M : Nat} {v : Value} {l : List Nd} (h : NodesR W M v l) (hs : szN l l.length ≤ 3000) : Nodes W M v l :=
  ⟨h.1, fun j hj => by have := szN_at l hj; exact ⟨by omega, by omega⟩, h.2.2⟩

set_option maxRecDepth 100000 in
set_option maxHeartbeats 2000000 in
theorem great_reach (W : World) (M : Nat) (v : Value) (l : List Nd) (hN : NodesR W M v l) (hM : M ≤ W.heap.size) :
    Calls Tryz.prog 6 #[.agg #[v]] W fun e w' => e = .returned (.bool (decide (3000 < szN l l.length))) ∧ Below W.heap.size W w' := by
  have HN := hide hN
  have hl1 := hN.1
  obtain ⟨a, cap, rfl, _, _⟩ := hN.len
  clear hN
  have HB0 := hide ((Below.refl W.heap.size W).alloc (Nat.le_refl _) (.cells #[.slice a l.length cap] 24))
  go_enter Tryz.func6, Tryz.ntmps6
  go_wp2
  go_loopw [3, 4] (fun t3 t wr => ∃ (i n : Nat), i ≤ l.length ∧ t = .int .i64 (i : Int) ∧ t3 = .int .i64 (n : Int) ∧ n = szN l i ∧ n ≤ 200000000000000 ∧ Below (W.heap.size + 1) (W.alloc (.cells #[.slice a l.length cap] 24)) wr) (fun _ t _ => l.length - (intOf t).toNat)
  case atStart => exact ⟨0, 0, Nat.zero_le _, rfl, rfl, rfl, by omega, Below.refl _ _⟩
  case round =>
    obtain ⟨i, n, hi, rfl, rfl, hn, hnb, hBr⟩ := hrel
    have cx := one_box _ _ hBr
    have hwr := hBr.size
    simp only [World.size_alloc] at hwr
    have hs1 : W.heap.size < wr.heap.size := by omega
    have hB : Below W.heap.size W wr := (unhide HB0).trans (hBr.mono (by omega))
    have HBR := hide hBr
    have HNN := hide hn
    clear hBr hn
    by_cases hil : i < l.length
    · have hil' : (i : Int) < l.length := by omega
      by_cases h3 : n ≤ 3000
      · have h3' : (n : Int) ≤ 3000 := by omega
        obtain ⟨b, o, cap0, ka, kc, hv, _, _, hb, d0, d1, d2, d3, d4, _, _, _⟩ := ((unhide HN).keep hB hM).at hil
        cases hv
        have hkl := ((unhide HN).2.1 i hil).2
        have htl := ((unhide HN).2.1 i hil).1
        have hbl : b < wr.heap.size := by omega
        obtain ⟨x, hx⟩ : ∃ x, nd l i = x := ⟨_, rfl⟩
        rw [hx] at d0 d1 d2 d3 d4 hkl htl
        have HX := hide hx
        clear hx
        go_wp2
        go_quiet (fail)
        go_wp2
        refine ⟨⟨i + 1, n + 1 + x.kids.length + x.text.size, by omega, by go_num, by go_num, ?_, by omega, below_drewN (unhide HBR) _⟩, by simp [intOf]; omega⟩
        show _ = szN l i + 1 + (nd l i).kids.length + (nd l i).text.size
        rw [unhide HX, unhide HNN]
      · have h3' : ¬ (n : Int) ≤ 3000 := by omega
        have h3'' : (3000 : Int) < n := by omega
        have HF : Hid (decide (3000 < szN l l.length) = true) := decide_eq_true (by have := szN_le l hi; have := unhide HNN; omega)
        go_wp2
        go_ret
        exact ⟨show Ending.returned (.bool true) = _ from ret_b (unhide HF).symm, hB⟩
    · have hil' : ¬ (i : Int) < l.length := by omega
      obtain rfl : i = l.length := by omega
      have HF : Hid (decide (3000 < szN l l.length) = decide ((3000 : Int) < n)) := by
        show decide (3000 < szN l l.length) = decide ((3000 : Int) < n)
        rw [decide_eq_decide, ← unhide HNN]; omega
      go_wp2
      go_ret
      exact ⟨ret_b (unhide HF).symm, hB⟩
end Go.Proofs.YtnnpkomedpjlcaaGreatDoor

/- What a law is told of a tree that came in. -/
namespace Go.Proofs.YtnnpkomedpjlcaaGreatDoor
set_option linter.unusedSimpArgs false
set_option linter.unusedVariables false
open Go.ChangeShapes Go.WideShapes Go.ChangeAt Go.RowKit

theorem ex_list {α : Type} (d : α) {P : Nat → α → Prop} : ∀ n, (∀ j, j < n → ∃ k, P j k) → ∃ ks : List α, ks.length = n ∧ ∀ j, j < n → P j (ks.getD j d)
  | 0, _ => ⟨[], rfl, fun j h => by omega⟩
  | n + 1, h => by
    obtain ⟨ks, hl, hk⟩ := ex_list d n fun j hj => h j (by omega)
    obtain ⟨k, hkn⟩ := h n (by omega)
    refine ⟨ks ++ [k], by simp [hl], fun j hj => ?_⟩
    by_cases e : j = n
    · subst e
      rw [List.getD_eq_getElem?_getD, List.getElem?_append_right (by omega), hl]
      simpa using hkn
    · have := hk j (by omega)
      rw [List.getD_eq_getElem?_getD, List.getElem?_append_left (by omega), ← List.getD_eq_getElem?_getD]
      exact this

/-- What a call can reach. -/
def Light {H : Type} (t : TypeId) (d : DataW H) : Prop := ∀ n ∈ d.weights Tryz.prog t, n ≤ 140737488351232

set_option maxRecDepth 100000 in
theorem kids_of_trod {H : Type} {enc : TypeId × Value → H} {W : World} {base : Nat} {sp : Nat → Bool} {held : Bool} {fuel : Nat} {v : Value} {x : DataW H × List MemPlace} (hf : DataW.trod enc Tryz.prog W base sp held fuel 39 [v] = some x) (hL : Light 39 x.1) :
    ∃ (ks : List Int) (a : Option Addr) (c : Nat), v = .slice a ks.length c ∧ ks.length ≤ c ∧ c ≤ maxLen ∧ ks.length ≤ 17592186044416 ∧ KidsAt W W.heap.size a ks := by
  have c3 : Tryz.prog.cellsOf 3 = 1 := by kernel_rfl
  have b3 : Tryz.prog.bytesOf 3 = 8 := by kernel_rfl
  rcases DataW.trod_slice Tryz.underlying39 hf with ⟨h0, _⟩ | ⟨a, len, cap, elems, rest, n, _, hcs, hx, _, hl, hm, hlen, hel, _, _⟩
  · simp at h0
    exact ⟨[], none, 0, h0, Nat.le_refl _, Nat.zero_le _, Nat.zero_le _, .inl rfl⟩
  · simp at hcs
    subst hcs
    have hw : (elems.length + rest.length) * 8 ≤ 140737488351232 := by
      refine hL _ ?_
      rw [hx]
      simp [DataW.weights, Tryz.underlying39, b3]
    rw [c3] at hel
    have raw : ∀ j, j < len → ∃ k : Int, W.cells? base (a.add (j * 1)) 1 = some [.int .i64 k] := by
      intro j hj
      have h1 := hel j hj
      rw [List.getElem?_eq_getElem (by omega), Option.bind_eq_some_iff] at h1
      obtain ⟨cs, h2, h3⟩ := h1
      obtain ⟨k, rfl, _⟩ := DataW.trod_int Tryz.underlying3 h3
      exact ⟨k, h2⟩
    obtain ⟨ks, hkl, hk⟩ := ex_list (0 : Int) len raw
    subst hkl
    refine ⟨ks, some a, cap, rfl, hl, hm, by omega, ?_⟩
    by_cases h0 : ks = []
    · exact .inl h0
    have hpos : 0 < ks.length := List.length_pos_iff.2 h0
    obtain ⟨b, off, spot⟩ := a
    have hspot : spot = none := by
      simpa [Addr.add] using World.cell?_spot ((World.cells?_some (hk 0 hpos)).2.2 0 (by simp))
    subst hspot
    have hb : b < W.heap.size := by simpa [Addr.add] using World.cells?_block (hk 0 hpos) (by omega)
    refine .inr ⟨b, off, rfl, hb, fun j hj => ?_⟩
    have q := (World.cells?_some (hk j hj)).2.2 0 (by simp)
    rw [Addr.add_lit, Addr.add_lit] at q
    simpa using q

set_option maxRecDepth 100000 in
theorem node_of_trod {H : Type} {enc : TypeId × Value → H} {W : World} {base : Nat} {sp : Nat → Bool} {held : Bool} {fuel : Nat} {cs : List Value} {x : DataW H × List MemPlace} (hf : DataW.trod enc Tryz.prog W base sp held fuel 41 cs = some x) (hL : Light 41 x.1) :
    ∃ (y : Nd) (a : Option Addr) (c : Nat), cs = [.int .i64 y.kind, .string y.text, .int .i64 y.num, .slice a y.kids.length c, .int .i64 y.at'] ∧ y.kids.length ≤ c ∧ c ≤ maxLen ∧ y.kids.length ≤ 17592186044416 ∧ y.text.size ≤ 140737488351232 ∧ KidsAt W W.heap.size a y.kids := by
  obtain ⟨xs, n, _, hx, hl, hlen, hfs⟩ := DataW.trod_struct Tryz.underlying41 hf
  have c29 : Tryz.prog.cellsOf 41 = 5 := by kernel_rfl
  have c3 : Tryz.prog.cellsOf 3 = 1 := by kernel_rfl
  have c9 : Tryz.prog.cellsOf 9 = 1 := by kernel_rfl
  have c27 : Tryz.prog.cellsOf 39 = 1 := by kernel_rfl
  rw [c29] at hl
  match cs, hl with
  | [v0, v1, v2, v3, v4], _ =>
    have f0 := hfs 0 _ rfl
    have f1 := hfs 1 _ rfl
    have f2 := hfs 2 _ rfl
    have f3 := hfs 3 _ rfl
    have f4 := hfs 4 _ rfl
    match xs, hlen with
    | [y0, y1, y2, y3, y4], _ =>
      simp at f0 f1 f2 f3 f4
      rw [c3] at f0 f2 f4
      rw [c9] at f1
      rw [c27] at f3
      obtain ⟨k, e0, g0, _⟩ := DataW.trod_int Tryz.underlying3 f0
      obtain ⟨s, e1, g1, _⟩ := DataW.trod_string Tryz.underlying9 f1
      obtain ⟨nm, e2, g2, _⟩ := DataW.trod_int Tryz.underlying3 f2
      obtain ⟨at', e4, g4, _⟩ := DataW.trod_int Tryz.underlying3 f4
      have hL3 : Light 39 y3.1 := fun m hm => hL m (by rw [hx]; simp [DataW.weights, Tryz.underlying41, DataW.weightsEach]; exact .inr (.inr (.inr (.inl hm))))
      have hL1 : Light 9 y1.1 := fun m hm => hL m (by rw [hx]; simp [DataW.weights, Tryz.underlying41, DataW.weightsEach]; exact .inr (.inl hm))
      simp at f3
      obtain ⟨ks, a, c, e3, k1, k2, k3, k4⟩ := kids_of_trod f3 hL3
      simp at e0 e1 e2 e4
      subst e0 e1 e2 e3 e4
      refine ⟨⟨k, s, nm, ks, at'⟩, a, c, rfl, k1, k2, k3, ?_, k4⟩
      have := hL1 s.data.toList.length (by rw [g1]; simp [DataW.weights])
      rw [Lib.size_eq]
      exact this
end Go.Proofs.YtnnpkomedpjlcaaGreatDoor

/- A tree that came in is a row of nodes. -/
namespace Go.Proofs.YtnnpkomedpjlcaaGreatDoor
set_option linter.unusedSimpArgs false
set_option linter.unusedVariables false
open Go.ChangeShapes Go.WideShapes Go.ChangeAt Go.RowKit

theorem light_all {H : Type} {e : TypeId} {l : List (DataW H)} {j : Nat} {d : DataW H} (h : ∀ n ∈ DataW.weightsAll Tryz.prog e l, n ≤ 140737488351232) (hj : l[j]? = some d) : Light e d := by
  induction l generalizing j with
  | nil => cases hj
  | cons x l ih =>
    cases j with
    | zero =>
      simp only [List.getElem?_cons_zero, Option.some.injEq] at hj
      subst hj
      exact fun n hn => h n (by simp only [DataW.weightsAll, List.mem_append]; exact .inl hn)
    | succ j => exact ih (fun n hn => h n (by simp only [DataW.weightsAll, List.mem_append]; exact .inr hn)) (by simpa using hj)

set_option maxRecDepth 100000 in
theorem nodes_of_trod {H : Type} {enc : TypeId × Value → H} {W : World} {base : Nat} {sp : Nat → Bool} {held : Bool} {fuel : Nat} {v : Value} {x : DataW H × List MemPlace} (hf : DataW.trod enc Tryz.prog W base sp held fuel 22 [v] = some x) (hL : Light 22 x.1) :
    ∃ l : List Nd, NodesR W W.heap.size v l := by
  have c29 : Tryz.prog.cellsOf 41 = 5 := by kernel_rfl
  have b29 : Tryz.prog.bytesOf 41 = 64 := by kernel_rfl
  rcases DataW.trod_slice Tryz.underlying22 hf with ⟨h0, _⟩ | ⟨a, len, cap, elems, rest, n, _, hcs, hx, _, hl, hm, hlen, hel, _, _⟩
  · simp at h0
    exact ⟨[], Nat.zero_le _, fun j h => by simp at h, none, 0, h0, Nat.le_refl _, Nat.zero_le _, .inl rfl⟩
  · simp at hcs
    subst hcs
    have hw : (elems.length + rest.length) * 64 ≤ 140737488351232 := by
      refine hL _ ?_
      rw [hx]
      simp [DataW.weights, Tryz.underlying22, b29]
    have hall : ∀ m ∈ DataW.weightsAll Tryz.prog 41 (elems.map (·.1)), m ≤ 140737488351232 := fun m hm => hL m (by rw [hx]; simp [DataW.weights, Tryz.underlying22]; exact .inr (.inl hm))
    rw [c29] at hel
    have raw : ∀ j, j < len → ∃ y : Nd, ∃ (ka : Option Addr) (kc : Nat), W.cells? base (a.add (j * 5)) 5 = some [.int .i64 y.kind, .string y.text, .int .i64 y.num, .slice ka y.kids.length kc, .int .i64 y.at'] ∧ y.kids.length ≤ kc ∧ kc ≤ maxLen ∧ y.kids.length ≤ 17592186044416 ∧ y.text.size ≤ 140737488351232 ∧ KidsAt W W.heap.size ka y.kids := by
      intro j hj
      have h1 := hel j hj
      obtain ⟨z, hz⟩ : ∃ z, elems[j]? = some z := ⟨_, List.getElem?_eq_getElem (by omega)⟩
      rw [hz, Option.bind_eq_some_iff] at h1
      obtain ⟨cs, h2, h3⟩ := h1
      obtain ⟨y, ka, kc, rfl, r⟩ := node_of_trod h3 (light_all (j := j) hall (by rw [List.getElem?_map, hz]; rfl))
      exact ⟨y, ka, kc, h2, r⟩
    obtain ⟨l, hll, hk⟩ := ex_list nd0 len raw
    subst hll
    refine ⟨l, by omega, fun j hj => ?_, some a, cap, rfl, hl, hm, ?_⟩
    · obtain ⟨_, _, _, _, _, h3, h4, _⟩ := hk j hj
      exact ⟨h4, h3⟩
    by_cases h0 : l = []
    · exact .inl h0
    have hpos : 0 < l.length := List.length_pos_iff.2 h0
    obtain ⟨b, off, spot⟩ := a
    obtain ⟨_, _, hc0, _⟩ := hk 0 hpos
    have hspot : spot = none := by
      simpa [Addr.add] using World.cell?_spot ((World.cells?_some hc0).2.2 0 (by simp))
    subst hspot
    have hb : b < W.heap.size := by simpa [Addr.add] using World.cells?_block hc0 (by omega)
    refine .inr ⟨b, off, rfl, hb, fun j hj => ?_⟩
    obtain ⟨ka, kc, hc, r1, r2, _, _, r3⟩ := hk j hj
    rw [Addr.add_lit] at hc
    have h4 := (World.cells?_some hc).2.2
    have q0 := h4 0 (by simp)
    have q1 := h4 1 (by simp)
    have q2 := h4 2 (by simp)
    have q3 := h4 3 (by simp)
    have q4 := h4 4 (by simp)
    rw [Addr.add_lit] at q0 q1 q2 q3 q4
    exact ⟨q0, q1, q2, ⟨ka, kc, q3, r1, r2, r3⟩, q4⟩

set_option maxRecDepth 100000 in
theorem open_tree {H : Type} {enc : TypeId × Value → H} {W : World} {r : Reach} {b0 base : Nat} {sp : Nat → Bool} {held : Bool} {v : Value} {d : DataW H} {p : List MemPlace} (hval : Value.okWide Tryz.prog W r b0 24 v) (h : DataW.Trod enc Tryz.prog W base sp held 24 v d p) (hL : Light 24 d) :
    ∃ (v1 : Value) (l : List Nd), v = .agg #[v1] ∧ NodesR W W.heap.size v1 l := by
  obtain ⟨cs, rfl, hsz⟩ := okWide_struct Tryz.underlying24 hval
  obtain ⟨fuel, hf⟩ := h
  obtain ⟨xs, n, _, hx, hl, hlen, hfs⟩ := DataW.trod_struct Tryz.underlying24 hf
  have c24 : Tryz.prog.cellsOf 24 = 1 := by kernel_rfl
  have c22 : Tryz.prog.cellsOf 22 = 1 := by kernel_rfl
  rw [c24] at hsz
  obtain ⟨l0⟩ := cs
  match l0, hsz with
  | [v0], _ =>
    have f0 := hfs 0 _ rfl
    match xs, hlen with
    | [y0], _ =>
      simp [Value.cells] at f0
      rw [c22] at f0
      simp at f0 hx
      have hL0 : Light 22 y0.1 := fun m hm => hL m (by rw [hx.1]; simp [DataW.weights, Tryz.underlying24, DataW.weightsEach]; exact hm)
      obtain ⟨l, hN⟩ := nodes_of_trod f0 hL0
      exact ⟨v0, l, rfl, hN⟩
end Go.Proofs.YtnnpkomedpjlcaaGreatDoor

/- What Strip leaves, purely: where the nodes sit, and what the table's places say of them. -/
namespace Go.Proofs.YtnnpkomedpjlcaaGreatDoor
set_option linter.unusedSimpArgs false
set_option linter.unusedVariables false

/-- A list sits at a place of another. -/
def Seg (S : List Nd) (p : Nat) (L : List Nd) : Prop := ∃ A B, S = A ++ (L ++ B) ∧ A.length = p
theorem Seg.cons {S : List Nd} {p : Nat} {x : Nd} {L : List Nd} (h : Seg S p (x :: L)) : p < S.length ∧ nd S p = x ∧ Seg S (p + 1) L := by
  obtain ⟨A, B, rfl, rfl⟩ := h
  exact ⟨by simp, by simp [nd, List.getD_eq_getElem?_getD], A ++ [x], B, by simp, by simp⟩
theorem Seg.app {S : List Nd} {p : Nat} {L M : List Nd} (h : Seg S p (L ++ M)) : Seg S p L ∧ Seg S (p + L.length) M := by
  obtain ⟨A, B, rfl, rfl⟩ := h
  exact ⟨⟨A, M ++ B, by simp, rfl⟩, ⟨A ++ L, B, by simp, by simp⟩⟩
theorem Seg.le {S : List Nd} {p : Nat} {L : List Nd} (h : Seg S p L) : p + L.length ≤ S.length := by
  obtain ⟨A, B, rfl, rfl⟩ := h
  simp

/-- What Strip lays of a node at a place. -/
def lay (l : List Nd) (n p : Nat) : List Nd := layF l l.length n p
/-- The kids that stay. -/
def kp (l : List Nd) (m : Nat) : List Int := (nd l m).kids.filter fun k => !leftP (ruleF (nd l m).kind) l k.toNat

theorem kz_head {l : List Nd} {a : Nat} {r : List (Option Nat)} {ks : List Int} (h : kz l (some a :: r) ks = true) : plOf a l (ks.getD 0 0).toNat = true := by
  cases ks with
  | nil => simp [kz] at h
  | cons k ks =>
    simp only [kz, Bool.and_eq_true] at h
    exact h.1.2
theorem inn_expr {l : List Nd} (hc : (chkP l).2 = 0) : ∀ (d n : Nat), l.length - n ≤ d → n < l.length → isE (nd l n).kind = true → isE (nd l (inn l n)).kind = true
  | 0, n, hd, hn, _ => by omega
  | d + 1, n, hd, hn, he => by
    by_cases hk : (nd l n).kind = 33 ∨ (nd l n).kind = 34
    · have hf := chk_all hc hn
      have h1 := about_in hc hn hk
      have h0 := about_kid hf.fit hk
      rw [inn_go hn hk]
      refine inn_expr hc d (n + 1) (by omega) h1 ?_
      have h2 : plOf 92 l ((nd l n).kids.getD 0 0).toNat = true := by
        rcases hk with h | h
        · exact kz_head (fit_kz hf.fit (by rw [h]; rfl) rfl)
        · exact kz_head (fit_kz hf.fit (by rw [h]; rfl) rfl)
      rw [kid_first hf h0] at h2
      exact h2
    · rw [inn_stop hk]; exact he
theorem isE_iff {k : Int} : isE k = true ↔ 10 ≤ k ∧ k ≤ 34 ∧ k ≠ 21 := by
  simp only [isE, Bool.and_eq_true, decide_eq_true_eq, Bool.not_eq_true', beq_eq_false_iff_ne]
  exact ⟨fun h => ⟨h.1.1, h.1.2, h.2⟩, fun h => ⟨⟨h.1, h.2.1⟩, h.2.2⟩⟩
theorem typeK_iff {k : Int} : typeK k = true ↔ 80 ≤ k ∧ k ≤ 87 ∧ k ≠ 85 := by
  simp only [typeK, Bool.and_eq_true, decide_eq_true_eq, bne_iff_ne]
  exact ⟨fun h => ⟨h.1.1, h.1.2, h.2⟩, fun h => ⟨⟨h.1, h.2.1⟩, h.2.2⟩⟩
theorem isT_typeK (k : Int) : isT k = typeK k := by
  simp only [isT, typeK, bne]
theorem rule_expr {k : Int} (h : isE k = true) : ruleF k = 46 := by
  have h := isE_iff.1 h
  have ht : ¬ typeK k = true := fun ht => by have := typeK_iff.1 ht; omega
  rw [ruleF, if_neg (by omega), if_neg (by omega), if_neg ht]
theorem left46 (l : List Nd) (n : Nat) : leftP 46 l n = false := rfl
theorem left43 (l : List Nd) (n : Nat) : leftP 43 l n = forT l n := rfl
theorem left44 (l : List Nd) (n : Nat) : leftP 44 l n = listT l n := rfl
theorem left45 (l : List Nd) (n : Nat) : leftP 45 l n = true := rfl
theorem about_isE {k : Int} (h : k = 33 ∨ k = 34) : isE k = true := isE_iff.2 (by omega)
theorem inn_in' {l : List Nd} (hc : (chkP l).2 = 0) {n : Nat} (hn : n < l.length) : n ≤ inn l n ∧ inn l n < l.length ∧ en l (inn l n) ≤ en l n ∧ ¬ ((nd l (inn l n)).kind = 33 ∨ (nd l (inn l n)).kind = 34) := inn_in hc _ n (Nat.le_refl _) hn
theorem kp_inn {l : List Nd} (hc : (chkP l).2 = 0) {n : Nat} (hn : n < l.length) : ((nd l (inn l n)).kids.filter fun k => !leftP (ruleF (nd l n).kind) l k.toNat) = kp l (inn l n) := by
  unfold kp
  by_cases hk : (nd l n).kind = 33 ∨ (nd l n).kind = 34
  · rw [rule_expr (about_isE hk), rule_expr (inn_expr hc _ n (Nat.le_refl _) hn (about_isE hk))]
  · rw [inn_stop hk]
theorem lay_eq {l : List Nd} (hc : (chkP l).2 = 0) {n : Nat} (hn : n < l.length) (p : Nat) : lay l n p = { aloneN (nd l (inn l n)) with kids := (layK (lay l) (kp l (inn l n)) (p + 1)).1 } :: (layK (lay l) (kp l (inn l n)) (p + 1)).2 := by
  obtain ⟨f, hf⟩ : ∃ f, l.length = f + 1 := ⟨l.length - 1, by omega⟩
  obtain ⟨a, b, c, d⟩ := inn_in' hc hn
  have hfi := chk_all hc b
  have hle := hfi.le
  have e1 : lay l n p = layF l (f + 1) n p := by unfold lay; rw [hf]
  have e2 : ∀ p', layK (layF l f) (kp l (inn l n)) p' = layK (lay l) (kp l (inn l n)) p' := fun p' => layK_same _ _ fun k hk p'' => by
    obtain ⟨q, rfl, hq, h1, h2⟩ := chain_kids _ _ _ hfi.chain k (List.mem_filter.1 hk).1
    simp only [Int.toNat_natCast]
    exact layF_fuel hc f l.length q p'' hq.1 (by omega) (by omega)
  rw [e1]
  simp only [layF]
  rw [kp_inn hc hn, e2]
theorem lay_inn {l : List Nd} (hc : (chkP l).2 = 0) {n : Nat} (hn : n < l.length) (p : Nat) : lay l n p = lay l (inn l n) p := by
  obtain ⟨a, b, c, d⟩ := inn_in' hc hn
  rw [lay_eq hc hn, lay_eq hc b, inn_stop d]
theorem lay_kids {l S : List Nd} : ∀ (ks : List Int) (p : Nat), Seg S p (layK (lay l) ks p).2 → (layK (lay l) ks p).1.length = ks.length ∧ ∀ j, j < ks.length → ∃ q : Nat, (layK (lay l) ks p).1.getD j 0 = (q : Int) ∧ p ≤ q ∧ Seg S q (lay l (ks.getD j 0).toNat q)
  | [], p, _ => ⟨rfl, fun j hj => by simp at hj⟩
  | k :: ks, p, h => by
    simp only [layK] at h ⊢
    obtain ⟨h1, h2⟩ := h.app
    obtain ⟨i1, i2⟩ := lay_kids ks _ h2
    refine ⟨by simp [i1], fun j hj => ?_⟩
    cases j with
    | zero => exact ⟨p, by simp, Nat.le_refl _, by simpa using h1⟩
    | succ j =>
      obtain ⟨q, a, b, c⟩ := i2 j (by simpa using hj)
      exact ⟨q, by simpa using a, by omega, by simpa using c⟩

theorem alone_kind (x : Nd) : (aloneN x).kind = if typeK x.kind = true then 1 else x.kind := by
  unfold aloneN
  by_cases h : typeK x.kind = true
  · simp [h]
  · by_cases h1 : x.kind = 44
    · simp [h1, typeK]
    · by_cases h2 : x.kind = 66
      · simp [h2, typeK]
      · simp [h, h1, h2]
/-- What becomes of a node: its kind, its Text, its Num. -/
structure Kf (x z : Nd) : Prop where
  t : typeK x.kind = true → z.kind = 1 ∧ z.text = ⟨#[]⟩ ∧ z.num = 0 ∧ z.kids = []
  e : isE x.kind = true → isE z.kind = true ∧ z.kind ≠ 33 ∧ z.kind ≠ 34
  s : typeK x.kind = false → x.kind ≠ 33 → x.kind ≠ 34 → z.kind = x.kind ∧ z.text = x.text ∧ (x.kind ≠ 44 → x.kind ≠ 66 → z.num = x.num) ∧ (x.kind = 44 → z.num = 0) ∧ (x.kind = 66 → z.num = if markP x.num = true then 2 else 0)
theorem kp_type {l : List Nd} {m : Nat} (h : typeK (nd l m).kind = true) : kp l m = [] := by
  have h' := typeK_iff.1 h
  have : ruleF (nd l m).kind = 45 := by rw [ruleF, if_neg (by omega), if_neg (by omega), if_pos h]
  simp [kp, this, left45]
/-- Where a node's rest sits. -/
theorem seg_at {l S : List Nd} (hc : (chkP l).2 = 0) {n q : Nat} (hn : n < l.length) (h : Seg S q (lay l n q)) : q < S.length ∧ nd S q = { aloneN (nd l (inn l n)) with kids := (layK (lay l) (kp l (inn l n)) (q + 1)).1 } ∧ Seg S (q + 1) (layK (lay l) (kp l (inn l n)) (q + 1)).2 := by
  rw [lay_eq hc hn] at h
  exact h.cons
theorem kf_of {l S : List Nd} (hc : (chkP l).2 = 0) {n q : Nat} (hn : n < l.length) (h : Seg S q (lay l n q)) : Kf (nd l n) (nd S q) := by
  obtain ⟨_, hz, _⟩ := seg_at hc hn h
  obtain ⟨a, b, c, d⟩ := inn_in' hc hn
  have hkind : (nd S q).kind = if typeK (nd l (inn l n)).kind = true then 1 else (nd l (inn l n)).kind := by rw [hz]; exact alone_kind _
  refine ⟨fun ht => ?_, fun he => ?_, fun ht h3 h4 => ?_⟩
  · have ht' := typeK_iff.1 ht
    have hi : inn l n = n := inn_stop (by omega)
    rw [hz, hi, kp_type ht]
    simp [aloneN, ht, layK]
  · have h1 := inn_expr hc _ n (Nat.le_refl _) hn he
    have h2 := isE_iff.1 h1
    have ht : ¬ typeK (nd l (inn l n)).kind = true := fun ht => by have := typeK_iff.1 ht; omega
    rw [if_neg ht] at hkind
    rw [hkind]
    exact ⟨h1, fun h => d (.inl h), fun h => d (.inr h)⟩
  · have hi : inn l n = n := inn_stop (by omega)
    rw [hi] at hz hkind
    rw [if_neg (by simp [ht])] at hkind
    refine ⟨hkind, ?_⟩
    rw [hz]
    unfold aloneN
    rw [if_neg (by simp [ht])]
    by_cases h44 : (nd l n).kind = 44
    · rw [if_pos h44]
      exact ⟨rfl, fun h _ => absurd h44 h, fun _ => rfl, fun h => by rw [h44] at h; exact absurd h (by decide)⟩
    · rw [if_neg h44]
      by_cases h66 : (nd l n).kind = 66
      · rw [if_pos h66]
        exact ⟨rfl, fun _ h => absurd h66 h, fun h => absurd h h44, fun _ => rfl⟩
      · rw [if_neg h66]
        exact ⟨rfl, fun _ _ => rfl, fun h => absurd h h44, fun h => absurd h h66⟩

/-- Places that look at the kind and the Num alone. -/
def apl (f : Nat) (k num : Int) : Bool := match f with
  | 60 => isS k
  | 92 => isE k
  | 94 => k == 21
  | 96 => k == 63 || isE k
  | 100 => k == 17 || k == 29 || k == 30
  | 121 => k == 63
  | 123 => isT k || k == 1
  | 124 => k == 43 || k == 1
  | 128 => isE k || k == 1
  | 131 => k == 48
  | 132 => isS k || k == 50
  | 133 => expOk k num
  | 135 => k == 53 || (k == 63 || k == 1)
  | 136 => (k == 40 && num == 0) || k == 1
  | 137 => k == 62 || k == 1
  | 138 => k == 63 || k == 1
  | _ => false
def aF : List Nat := [60, 92, 94, 96, 100, 121, 123, 124, 128, 131, 132, 133, 135, 136, 137, 138]
theorem apl_eq {f : Nat} (hf : f ∈ aF) (l : List Nd) (n : Nat) : plOf f l n = apl f (nd l n).kind (nd l n).num := by
  simp only [aF, List.mem_cons, List.not_mem_nil, or_false] at hf
  rcases hf with rfl | rfl | rfl | rfl | rfl | rfl | rfl | rfl | rfl | rfl | rfl | rfl | rfl | rfl | rfl | rfl <;> rfl
theorem isS_facts {k : Int} (h : isS k = true) : k = 51 ∨ k = 52 ∨ (typeK k = false ∧ 40 ≤ k ∧ k ≤ 65 ∧ k ≠ 44 ∧ k ≠ 48 ∧ k ≠ 50) := by
  simp only [isS, stmtK, List.contains_cons, List.contains_nil, Bool.or_eq_true, beq_iff_eq, Bool.or_false] at h
  rcases h with h | h | h | h | h | h | h | h | h | h | h | h | h | h | h | h | h | h | h <;> subst h <;> decide
theorem expOk_facts {k num : Int} (h : expOk k num = true) : k = 51 ∨ k = 52 ∨ (typeK k = false ∧ 40 ≤ k ∧ k ≤ 65 ∧ k ≠ 44 ∧ k ≠ 48 ∧ k ≠ 50) := by
  unfold expOk at h
  by_cases h1 : k = 40
  · subst h1; decide
  by_cases h2 : k = 47
  · subst h2; decide
  rw [if_neg (by simpa using h1), if_neg (by simpa using h2)] at h
  simp only [expK, List.contains_cons, List.contains_nil, Bool.or_eq_true, beq_iff_eq, Bool.or_false] at h
  rcases h with h | h | h | h | h <;> subst h <;> decide
theorem Kf.at' {x z : Nd} (h : Kf x z) {c : Int} (hx : x.kind = c) (h1 : typeK c = false) (h2 : c ≠ 33) (h3 : c ≠ 34) (h4 : c ≠ 44) (h5 : c ≠ 66) : z.kind = c ∧ z.num = x.num := by
  subst hx
  obtain ⟨a, _, b, _⟩ := h.s h1 h2 h3
  exact ⟨a, b h4 h5⟩
theorem apl_keep {f : Nat} (hf : f ∈ aF) {x z : Nd} (hk : Kf x z) (h : apl f x.kind x.num = true) : apl f z.kind z.num = true := by
  have S1 : ∀ {k : Int}, x.kind = k → k = 51 ∨ k = 52 ∨ (typeK k = false ∧ 40 ≤ k ∧ k ≤ 65 ∧ k ≠ 44 ∧ k ≠ 48 ∧ k ≠ 50) → z.kind = k ∧ z.num = x.num := by
    intro k hx h
    have ht : typeK k = false := by
      rcases h with rfl | rfl | h
      · rfl
      · rfl
      · exact h.1
    exact hk.at' hx ht (by omega) (by omega) (by omega) (by omega)
  have C : ∀ {c : Int}, x.kind = c → c = 21 ∨ c = 63 ∨ c = 17 ∨ c = 29 ∨ c = 30 ∨ c = 43 ∨ c = 1 ∨ c = 48 ∨ c = 50 ∨ c = 53 ∨ c = 40 ∨ c = 62 → z.kind = c ∧ z.num = x.num := by
    intro c hx hc
    refine hk.at' hx ?_ (by omega) (by omega) (by omega) (by omega)
    rcases hc with h | h | h | h | h | h | h | h | h | h | h | h <;> subst h <;> rfl
  simp only [aF, List.mem_cons, List.not_mem_nil, or_false] at hf
  rcases hf with rfl | rfl | rfl | rfl | rfl | rfl | rfl | rfl | rfl | rfl | rfl | rfl | rfl | rfl | rfl | rfl
  · have := S1 rfl (isS_facts h)
    show isS z.kind = true
    rw [this.1]; exact h
  · exact (hk.e h).1
  · have := C (beq_iff_eq.1 h) (by omega)
    show (z.kind == 21) = true
    rw [this.1]; rfl
  · have h' : (x.kind == 63 || isE x.kind) = true := h
    show (z.kind == 63 || isE z.kind) = true
    rw [Bool.or_eq_true, beq_iff_eq] at h' ⊢
    rcases h' with h' | h'
    · exact .inl (C h' (by omega)).1
    · exact .inr (hk.e h').1
  · have h' : (x.kind == 17 || x.kind == 29 || x.kind == 30) = true := h
    show (z.kind == 17 || z.kind == 29 || z.kind == 30) = true
    simp only [Bool.or_eq_true, beq_iff_eq] at h' ⊢
    have := (C (c := x.kind) rfl (by omega)).1
    omega
  · have := C (beq_iff_eq.1 h) (by omega)
    show (z.kind == 63) = true
    rw [this.1]; rfl
  · have h' : (isT x.kind || x.kind == 1) = true := h
    show (isT z.kind || z.kind == 1) = true
    rw [Bool.or_eq_true, beq_iff_eq] at h' ⊢
    rcases h' with h' | h'
    · rw [isT_typeK] at h'
      exact .inr (hk.t h').1
    · exact .inr (C h' (by omega)).1
  · have h' : (x.kind == 43 || x.kind == 1) = true := h
    show (z.kind == 43 || z.kind == 1) = true
    simp only [Bool.or_eq_true, beq_iff_eq] at h' ⊢
    have := (C (c := x.kind) rfl (by omega)).1
    omega
  · have h' : (isE x.kind || x.kind == 1) = true := h
    show (isE z.kind || z.kind == 1) = true
    rw [Bool.or_eq_true, beq_iff_eq] at h' ⊢
    rcases h' with h' | h'
    · exact .inl (hk.e h').1
    · exact .inr (C h' (by omega)).1
  · have := C (beq_iff_eq.1 h) (by omega)
    show (z.kind == 48) = true
    rw [this.1]; rfl
  · have h' : (isS x.kind || x.kind == 50) = true := h
    show (isS z.kind || z.kind == 50) = true
    rw [Bool.or_eq_true, beq_iff_eq] at h' ⊢
    rcases h' with h' | h'
    · exact .inl (by rw [(S1 rfl (isS_facts h')).1]; exact h')
    · exact .inr (C h' (by omega)).1
  · have := S1 rfl (expOk_facts h)
    show expOk z.kind z.num = true
    rw [this.1, this.2]; exact h
  · have h' : (x.kind == 53 || (x.kind == 63 || x.kind == 1)) = true := h
    show (z.kind == 53 || (z.kind == 63 || z.kind == 1)) = true
    simp only [Bool.or_eq_true, beq_iff_eq] at h' ⊢
    have := (C (c := x.kind) rfl (by omega)).1
    omega
  · have h' : ((x.kind == 40 && x.num == 0) || x.kind == 1) = true := h
    show ((z.kind == 40 && z.num == 0) || z.kind == 1) = true
    simp only [Bool.or_eq_true, Bool.and_eq_true, beq_iff_eq] at h' ⊢
    have := C (c := x.kind) rfl (by omega)
    omega
  · have h' : (x.kind == 62 || x.kind == 1) = true := h
    show (z.kind == 62 || z.kind == 1) = true
    simp only [Bool.or_eq_true, beq_iff_eq] at h' ⊢
    have := (C (c := x.kind) rfl (by omega)).1
    omega
  · have h' : (x.kind == 63 || x.kind == 1) = true := h
    show (z.kind == 63 || z.kind == 1) = true
    simp only [Bool.or_eq_true, beq_iff_eq] at h' ⊢
    have := (C (c := x.kind) rfl (by omega)).1
    omega
/-- Which kinds such a place takes. -/
theorem apl_kinds {f : Nat} (hf : f ∈ aF) {k num : Int} (h : apl f k num = true) : k ≠ 2 ∧ k ≠ 44 ∧ k ≠ 67 ∧ k ≠ 85 ∧ (k = 51 ∨ k = 52 → f = 60 ∨ f = 132 ∨ f = 133) ∧ (k = 50 → f = 132) ∧ (k = 48 → f = 131) := by
  simp only [aF, List.mem_cons, List.not_mem_nil, or_false] at hf
  rcases hf with rfl | rfl | rfl | rfl | rfl | rfl | rfl | rfl | rfl | rfl | rfl | rfl | rfl | rfl | rfl | rfl
  · have := isS_facts h; omega
  · have := isE_iff.1 h; omega
  · have : k = 21 := beq_iff_eq.1 h; omega
  · have h' : (k == 63 || isE k) = true := h
    rw [Bool.or_eq_true, beq_iff_eq, isE_iff] at h'; omega
  · have h' : (k == 17 || k == 29 || k == 30) = true := h
    simp only [Bool.or_eq_true, beq_iff_eq] at h'; omega
  · have : k = 63 := beq_iff_eq.1 h; omega
  · have h' : (isT k || k == 1) = true := h
    rw [Bool.or_eq_true, beq_iff_eq, isT_typeK, typeK_iff] at h'; omega
  · have h' : (k == 43 || k == 1) = true := h
    simp only [Bool.or_eq_true, beq_iff_eq] at h'; omega
  · have h' : (isE k || k == 1) = true := h
    rw [Bool.or_eq_true, beq_iff_eq, isE_iff] at h'; omega
  · have : k = 48 := beq_iff_eq.1 h; omega
  · have h' : (isS k || k == 50) = true := h
    rw [Bool.or_eq_true, beq_iff_eq] at h'
    rcases h' with h' | h'
    · have := isS_facts h'; omega
    · omega
  · have := expOk_facts h; omega
  · have h' : (k == 53 || (k == 63 || k == 1)) = true := h
    simp only [Bool.or_eq_true, beq_iff_eq] at h'; omega
  · have h' : ((k == 40 && num == 0) || k == 1) = true := h
    simp only [Bool.or_eq_true, Bool.and_eq_true, beq_iff_eq] at h'; omega
  · have h' : (k == 62 || k == 1) = true := h
    simp only [Bool.or_eq_true, beq_iff_eq] at h'; omega
  · have h' : (k == 63 || k == 1) = true := h
    simp only [Bool.or_eq_true, beq_iff_eq] at h'; omega
end Go.Proofs.YtnnpkomedpjlcaaGreatDoor

/- What Strip leaves, purely: lists, and every row of the table. -/
namespace Go.Proofs.YtnnpkomedpjlcaaGreatDoor
set_option linter.unusedSimpArgs false
set_option linter.unusedVariables false

/-- Kinds of what stands in Lists. -/
def lsK (k : Int) : Bool := isE k || typeK k || k == 66 || k == 44 || k == 45 || k == 46 || k == 67
theorem lsK_iff {k : Int} : lsK k = true ↔ isE k = true ∨ typeK k = true ∨ k = 66 ∨ k = 44 ∨ k = 45 ∨ k = 46 ∨ k = 67 := by
  simp only [lsK, Bool.or_eq_true, beq_iff_eq, or_assoc]
/-- A node that stays. -/
structure Ok (l : List Nd) (n : Nat) : Prop where
  k51 : (nd l n).kind ≠ 51
  k52 : (nd l n).kind ≠ 52
  k67 : (nd l n).kind ≠ 67
  k85 : (nd l n).kind ≠ 85
  k50 : (nd l n).kind = 50 → forT l n = false
  k44 : (nd l n).kind = 44 → noneK l n 1 = false
  k2 : (nd l n).kind = 2 → ∀ k ∈ (nd l n).kids, lsK (nd l k.toNat).kind = true
theorem Ok.expr {l : List Nd} {n : Nat} (h : isE (nd l n).kind = true) : Ok l n := by
  have h := isE_iff.1 h
  exact ⟨by omega, by omega, by omega, by omega, by omega, by omega, by omega⟩
theorem Ok.inn {l : List Nd} (hc : (chkP l).2 = 0) {n : Nat} (hn : n < l.length) (h : Ok l n) : Ok l (inn l n) := by
  by_cases hk : (nd l n).kind = 33 ∨ (nd l n).kind = 34
  · exact Ok.expr (inn_expr hc _ n (Nat.le_refl _) hn (about_isE hk))
  · rw [inn_stop hk]; exact h
theorem forT_kind {l : List Nd} {n : Nat} (h : (nd l n).kind ≠ 50) : forT l n = ((nd l n).kind == 51 || (nd l n).kind == 52) := by
  simp only [forT, expN, if_neg h]
theorem ok_apl {f : Nat} (hf : f ∈ aF) {l : List Nd} {n : Nat} (h : plOf f l n = true) (hL : f = 60 ∨ f = 132 ∨ f = 133 → forT l n = false) : Ok l n := by
  rw [apl_eq hf] at h
  obtain ⟨a, b, c, d, e, g, i⟩ := apl_kinds hf h
  have q : ¬ ((nd l n).kind = 51 ∨ (nd l n).kind = 52) := fun hk => by
    have := hL (e hk)
    rw [forT_kind (by omega)] at this
    rw [Bool.or_eq_false_iff, beq_eq_false_iff_ne, beq_eq_false_iff_ne] at this
    omega
  exact ⟨by omega, by omega, c, d, fun h => hL (by have := g h; omega), fun h => absurd h b, fun h => absurd h a⟩
/-- Lists. -/
def bF : List Nat := [62, 69, 95, 101, 125, 126, 129]
theorem kAll_mem {p : Plc} {l : List Nd} {ks : List Int} (h : kAll p l ks = true) {k : Int} (hk : k ∈ ks) : ins l k = true ∧ p l k.toNat = true := by
  have := List.all_eq_true.1 h k hk
  rwa [Bool.and_eq_true] at this
theorem pList_iff {p : Plc} {l : List Nd} {n : Nat} : pList p l n = true ↔ (nd l n).kind = 2 ∧ kAll p l (nd l n).kids = true := by
  simp only [pList, Bool.and_eq_true, beq_iff_eq]
theorem mem_kinds {l : List Nd} : ∀ (ks : List Int) (c : Nat), mem l c ks = true → ∀ k ∈ ks, ins l k = true ∧ ((nd l k.toNat).kind = 44 ∨ (nd l k.toNat).kind = 45 ∨ (nd l k.toNat).kind = 46)
  | [], c, _, k, hk => by cases hk
  | k0 :: ks, c, h, k, hk => by
    simp only [mem, Bool.and_eq_true] at h
    obtain ⟨h1, h2⟩ := h
    by_cases h44 : ((nd l k0.toNat).kind == 44 || (nd l k0.toNat).kind == 45) = true
    · rw [if_pos h44] at h2
      rcases List.mem_cons.1 hk with rfl | hk
      · rw [Bool.or_eq_true, beq_iff_eq, beq_iff_eq] at h44
        exact ⟨h1, by omega⟩
      · exact mem_kinds ks c h2 k hk
    · rw [if_neg h44] at h2
      by_cases h46 : ((nd l k0.toNat).kind == 46) = true
      · rw [if_pos h46, Bool.and_eq_true] at h2
        rcases List.mem_cons.1 hk with rfl | hk
        · rw [beq_iff_eq] at h46
          exact ⟨h1, by omega⟩
        · exact mem_kinds ks _ h2.2 k hk
      · rw [if_neg h46] at h2; cases h2
theorem bpl_kinds {f : Nat} (hf : f ∈ bF) {l : List Nd} {n : Nat} (h : plOf f l n = true) : (nd l n).kind = 2 ∧ ∀ k ∈ (nd l n).kids, ins l k = true ∧ lsK (nd l k.toNat).kind = true := by
  simp only [bF, List.mem_cons, List.not_mem_nil, or_false] at hf
  rcases hf with rfl | rfl | rfl | rfl | rfl | rfl | rfl
  · obtain ⟨a, b⟩ := pList_iff.1 (show pList pTyp l n = true from h)
    refine ⟨a, fun k hk => ⟨(kAll_mem b hk).1, ?_⟩⟩
    have h2 : isT (nd l k.toNat).kind = true := (kAll_mem b hk).2
    rw [isT_typeK] at h2
    exact lsK_iff.2 (.inr (.inl h2))
  · obtain ⟨a, b⟩ := pList_iff.1 (show pList pParam l n = true from h)
    refine ⟨a, fun k hk => ⟨(kAll_mem b hk).1, ?_⟩⟩
    have h2 : ((nd l k.toNat).kind == 66 && zo (nd l k.toNat).num) = true := (kAll_mem b hk).2
    rw [Bool.and_eq_true, beq_iff_eq] at h2
    exact lsK_iff.2 (by have := h2.1; omega)
  · obtain ⟨a, b⟩ := pList_iff.1 (show pList (pK 67) l n = true from h)
    refine ⟨a, fun k hk => ⟨(kAll_mem b hk).1, ?_⟩⟩
    have h2 : ((nd l k.toNat).kind == 67) = true := (kAll_mem b hk).2
    rw [beq_iff_eq] at h2
    exact lsK_iff.2 (by omega)
  · obtain ⟨a, b⟩ := pList_iff.1 (show pList pExpr l n = true from h)
    exact ⟨a, fun k hk => ⟨(kAll_mem b hk).1, lsK_iff.2 (.inl (kAll_mem b hk).2)⟩⟩
  · obtain ⟨a, b⟩ := pList_iff.1 (show pList (pK 80) l n = true from h)
    refine ⟨a, fun k hk => ⟨(kAll_mem b hk).1, ?_⟩⟩
    have h2 : ((nd l k.toNat).kind == 80) = true := (kAll_mem b hk).2
    rw [beq_iff_eq] at h2
    exact lsK_iff.2 (.inr (.inl (by rw [h2]; rfl)))
  · have h' : ((nd l n).kind == 2 && mem l 0 (nd l n).kids) = true := h
    rw [Bool.and_eq_true, beq_iff_eq] at h'
    refine ⟨h'.1, fun k hk => ?_⟩
    obtain ⟨a, b⟩ := mem_kinds _ _ h'.2 k hk
    exact ⟨a, lsK_iff.2 (by omega)⟩
  · obtain ⟨a, b⟩ := pList_iff.1 (show pList (pK 66) l n = true from h)
    refine ⟨a, fun k hk => ⟨(kAll_mem b hk).1, ?_⟩⟩
    have h2 : ((nd l k.toNat).kind == 66) = true := (kAll_mem b hk).2
    rw [beq_iff_eq] at h2
    exact lsK_iff.2 (by omega)
theorem ok_bpl {f : Nat} (hf : f ∈ bF) {l : List Nd} {n : Nat} (h : plOf f l n = true) : Ok l n := by
  obtain ⟨a, b⟩ := bpl_kinds hf h
  exact ⟨by omega, by omega, by omega, by omega, by omega, by omega, fun _ k hk => (b k hk).2⟩

theorem kp_list {l : List Nd} {n : Nat} (h : (nd l n).kind = 2) : kp l n = (nd l n).kids.filter fun k => !listT l k.toNat := by
  have : ruleF (nd l n).kind = 44 := by rw [h]; rfl
  simp only [kp, this, left44]
theorem seg_ins {l S : List Nd} (hc : (chkP l).2 = 0) {n q : Nat} (hn : n < l.length) (h : Seg S q (lay l n q)) : ins S (q : Int) = true := by
  have := (seg_at hc hn h).1
  exact ins_iff'.2 ⟨by omega, by omega⟩
/-- A List's kids stay what a place asks of each. -/
theorem kAll_keep {l S : List Nd} (hc : (chkP l).2 = 0) (pr ps : Plc) : ∀ (ks : List Int) (p : Nat), (∀ k ∈ ks, ins l k = true ∧ pr l k.toNat = true) → (∀ k ∈ ks, ∀ q : Nat, pr l k.toNat = true → Seg S q (lay l k.toNat q) → ps S q = true) → Seg S p (layK (lay l) ks p).2 → kAll ps S (layK (lay l) ks p).1 = true
  | [], p, _, _, _ => rfl
  | k :: ks, p, h1, h2, h => by
    simp only [layK] at h ⊢
    obtain ⟨ha, hb⟩ := h.app
    obtain ⟨i1, i2⟩ := h1 k (by simp)
    have ih := kAll_keep hc pr ps ks _ (fun k' hk' => h1 k' (by simp [hk'])) (fun k' hk' => h2 k' (by simp [hk'])) hb
    simp only [kAll, List.all_cons, Bool.and_eq_true] at ih ⊢
    refine ⟨⟨seg_ins hc (ins_iff.1 i1).2 ha, ?_⟩, ih⟩
    simp only [Int.toNat_natCast]
    exact h2 k (by simp) p i2 ha
theorem mem_keep {l S : List Nd} (hc : (chkP l).2 = 0) : ∀ (ks : List Int) (c c' p : Nat), c' ≤ c → mem l c ks = true → Seg S p (layK (lay l) (ks.filter fun k => !listT l k.toNat) p).2 → mem S c' (layK (lay l) (ks.filter fun k => !listT l k.toNat) p).1 = true
  | [], c, c', p, _, _, _ => rfl
  | k :: ks, c, c', p, hcc, h, hS => by
    simp only [mem, Bool.and_eq_true] at h
    obtain ⟨h1, h2⟩ := h
    have hn := (ins_iff.1 h1).2
    cases hL : listT l k.toNat with
    | true =>
      rw [List.filter_cons_of_neg (by simp [hL])] at hS ⊢
      by_cases h44 : ((nd l k.toNat).kind == 44 || (nd l k.toNat).kind == 45) = true
      · rw [if_pos h44] at h2
        exact mem_keep hc ks c c' p hcc h2 hS
      · rw [if_neg h44] at h2
        by_cases h46 : ((nd l k.toNat).kind == 46) = true
        · rw [if_pos h46, Bool.and_eq_true] at h2
          exact mem_keep hc ks (c + 1) c' p (by omega) h2.2 hS
        · rw [if_neg h46] at h2; cases h2
    | false =>
      rw [List.filter_cons_of_pos (by simp [hL])] at hS ⊢
      simp only [layK] at hS ⊢
      obtain ⟨ha, hb⟩ := hS.app
      have hkf := kf_of hc hn ha
      simp only [mem, Bool.and_eq_true, Int.toNat_natCast]
      refine ⟨seg_ins hc hn ha, ?_⟩
      by_cases h44 : ((nd l k.toNat).kind == 44 || (nd l k.toNat).kind == 45) = true
      · have h44' := h44
        rw [Bool.or_eq_true, beq_iff_eq, beq_iff_eq] at h44'
        have ht : typeK (nd l k.toNat).kind = false := by rcases h44' with h | h <;> rw [h] <;> rfl
        have hz := (hkf.s ht (by omega) (by omega)).1
        rw [if_pos h44] at h2
        have h44z : ((nd S p).kind == 44 || (nd S p).kind == 45) = true := by rw [hz]; exact h44
        rw [if_pos h44z]
        exact mem_keep hc ks c c' _ hcc h2 hb
      · rw [if_neg h44] at h2
        by_cases h46 : ((nd l k.toNat).kind == 46) = true
        · have h46' := beq_iff_eq.1 h46
          have ht : typeK (nd l k.toNat).kind = false := by rw [h46']; rfl
          have hz := (hkf.s ht (by omega) (by omega)).1
          rw [if_pos h46, Bool.and_eq_true, beq_iff_eq] at h2
          have h44z : ¬ ((nd S p).kind == 44 || (nd S p).kind == 45) = true := by rw [hz]; exact h44
          have h46z : ((nd S p).kind == 46) = true := by rw [hz]; exact h46
          rw [if_neg h44z, if_pos h46z, Bool.and_eq_true, beq_iff_eq]
          exact ⟨by omega, mem_keep hc ks (c + 1) (c' + 1) _ (by omega) h2.2 hb⟩
        · rw [if_neg h46] at h2; cases h2
theorem mark01 {n : Int} (h : zo n = true) : markP n = false := by
  simp only [zo, Bool.or_eq_true, beq_iff_eq] at h
  rcases h with rfl | rfl <;> decide
theorem listT_type {l : List Nd} {n : Nat} (h : typeK (nd l n).kind = true) : listT l n = true := by simp [listT, h]
theorem listT_67 {l : List Nd} {n : Nat} (h : (nd l n).kind = 67) : listT l n = true := by simp [listT, h]
/-- A List stays one of its place; those of types become empty. -/
theorem bpl_keep {l S : List Nd} (hc : (chkP l).2 = 0) {f : Nat} (hf : f ∈ bF) {n q : Nat} (hn : n < l.length) (h : plOf f l n = true) (hS : Seg S q (lay l n q)) : plOf f S q = true ∧ (f = 62 ∨ f = 95 ∨ f = 125 → (nd S q).kids = []) := by
  obtain ⟨h2, hls⟩ := bpl_kinds hf h
  have hi : inn l n = n := inn_stop (by omega)
  obtain ⟨_, hz, hsub⟩ := seg_at hc hn hS
  rw [hi, kp_list h2] at hz hsub
  have hzk : (nd S q).kind = 2 := by rw [hz]; simp [alone_kind, h2, typeK]
  have hkids : (nd S q).kids = (layK (lay l) ((nd l n).kids.filter fun k => !listT l k.toNat) (q + 1)).1 := by rw [hz]
  have fl : ∀ k ∈ (nd l n).kids.filter (fun k => !listT l k.toNat), k ∈ (nd l n).kids ∧ listT l k.toNat = false := fun k hk => by
    have := List.mem_filter.1 hk
    exact ⟨this.1, by simpa using this.2⟩
  have G : ∀ (pr : Plc), pList pr l n = true → (∀ k ∈ (nd l n).kids, listT l k.toNat = false → ∀ q' : Nat, pr l k.toNat = true → Seg S q' (lay l k.toNat q') → pr S q' = true) → pList pr S q = true := by
    intro pr hp hk
    obtain ⟨_, b⟩ := pList_iff.1 hp
    refine pList_iff.2 ⟨hzk, ?_⟩
    rw [hkids]
    exact kAll_keep hc pr pr _ _ (fun k hm => kAll_mem b (fl k hm).1) (fun k hm q' h1 h2 => hk k (fl k hm).1 (fl k hm).2 q' h1 h2) hsub
  have E : ∀ (pr : Plc), pList pr l n = true → (∀ m, pr l m = true → listT l m = true) → (nd S q).kids = [] := by
    intro pr hp hk
    obtain ⟨_, b⟩ := pList_iff.1 hp
    have : (nd l n).kids.filter (fun k => !listT l k.toNat) = [] := by
      rw [List.filter_eq_nil_iff]
      intro k hm
      simp [hk _ (kAll_mem b hm).2]
    rw [hkids, this]
    rfl
  simp only [bF, List.mem_cons, List.not_mem_nil, or_false] at hf
  rcases hf with rfl | rfl | rfl | rfl | rfl | rfl | rfl
  · have T : ∀ m, pTyp l m = true → listT l m = true := fun m hm => listT_type (by rw [← isT_typeK]; exact hm)
    exact ⟨G pTyp h fun k _ hl q' hp _ => (by rw [T _ hp] at hl; cases hl), fun _ => E pTyp h T⟩
  · refine ⟨G pParam h fun k hk hl q' hp hs => ?_, fun h => by omega⟩
    have hp' : ((nd l k.toNat).kind == 66 && zo (nd l k.toNat).num) = true := hp
    rw [Bool.and_eq_true, beq_iff_eq] at hp'
    have hkf := kf_of hc (ins_iff.1 (hls k hk).1).2 hs
    obtain ⟨a, _, _, _, b⟩ := hkf.s (by rw [hp'.1]; rfl) (by omega) (by omega)
    have b := b hp'.1
    rw [mark01 hp'.2] at b
    show ((nd S q').kind == 66 && zo (nd S q').num) = true
    rw [a, hp'.1, b]
    rfl
  · have T : ∀ m, pK 67 l m = true → listT l m = true := fun m hm => listT_67 (beq_iff_eq.1 hm)
    exact ⟨G (pK 67) h fun k _ hl q' hp _ => (by rw [T _ hp] at hl; cases hl), fun _ => E (pK 67) h T⟩
  · refine ⟨G pExpr h fun k hk hl q' hp hs => ?_, fun h => by omega⟩
    exact ((kf_of hc (ins_iff.1 (hls k hk).1).2 hs).e hp).1
  · have T : ∀ m, pK 80 l m = true → listT l m = true := fun m hm => listT_type (by rw [beq_iff_eq.1 hm]; rfl)
    exact ⟨G (pK 80) h fun k _ hl q' hp _ => (by rw [T _ hp] at hl; cases hl), fun _ => E (pK 80) h T⟩
  · refine ⟨?_, fun h => by omega⟩
    have h' : ((nd l n).kind == 2 && mem l 0 (nd l n).kids) = true := h
    rw [Bool.and_eq_true] at h'
    show ((nd S q).kind == 2 && mem S 0 (nd S q).kids) = true
    rw [hzk, hkids, mem_keep hc _ 0 0 _ (Nat.le_refl _) h'.2 hsub]
    rfl
  · refine ⟨G (pK 66) h fun k hk hl q' hp hs => ?_, fun h => by omega⟩
    have hp' := beq_iff_eq.1 hp
    have hkf := kf_of hc (ins_iff.1 (hls k hk).1).2 hs
    obtain ⟨a, _⟩ := hkf.s (by rw [hp']; rfl) (by omega) (by omega)
    show ((nd S q').kind == 66) = true
    rw [a, hp']
    rfl
/-- Members over a Name stay such. -/
theorem mov17 {l : List Nd} {n : Nat} (h : (nd l n).kind = 17) : ∀ f, mov l f n = true
  | 0 => by simp [mov, h]
  | f + 1 => by
    show (match (nd l n).kids with
      | [k] => if (nd l n).kind == 29 && ins l k then mov l f k.toNat else (nd l n).kind == 17
      | _ => (nd l n).kind == 17) = true
    rw [h]
    match (nd l n).kids with
    | [] => rfl
    | [k] => simp
    | _ :: _ :: _ => rfl
theorem mov_keep {l S : List Nd} (hc : (chkP l).2 = 0) : ∀ (f n q f' : Nat), n < l.length → mov l f n = true → Seg S q (lay l n q) → S.length - q ≤ f' → mov S f' q = true
  | 0, n, q, f', hn, h, hS, hf => by
    have h17 : (nd l n).kind = 17 := by simpa [mov] using h
    have := ((kf_of hc hn hS).s (by rw [h17]; rfl) (by omega) (by omega)).1
    exact mov17 (this.trans h17) f'
  | f + 1, n, q, f', hn, h, hS, hf => by
    by_cases h17 : (nd l n).kind = 17
    · have := ((kf_of hc hn hS).s (by rw [h17]; rfl) (by omega) (by omega)).1
      exact mov17 (this.trans h17) f'
    have h' : (match (nd l n).kids with
      | [k] => if (nd l n).kind == 29 && ins l k then mov l f k.toNat else (nd l n).kind == 17
      | _ => (nd l n).kind == 17) = true := h
    have h17b : ((nd l n).kind == 17) = false := beq_eq_false_iff_ne.2 h17
    rw [h17b] at h'
    match hks : (nd l n).kids, h' with
    | [], h' => cases h'
    | _ :: _ :: _, h' => cases h'
    | [k], h' =>
      by_cases hb : ((nd l n).kind == 29 && ins l k) = true
      · simp only [hb, if_true] at h'
        rw [Bool.and_eq_true, beq_iff_eq] at hb
        obtain ⟨h29, hins⟩ := hb
        have hkl := (ins_iff.1 hins).2
        have hi : inn l n = n := inn_stop (by omega)
        obtain ⟨hql, hz, hsub⟩ := seg_at hc hn hS
        have hkp : kp l n = [k] := by
          have hr : ruleF (nd l n).kind = 46 := by rw [h29]; rfl
          simp [kp, hr, hks, left46]
        rw [hi, hkp] at hz hsub
        simp only [layK] at hz hsub
        have hsk := hsub.app.1
        have hzk : (nd S q).kind = 29 := by rw [hz]; simp [alone_kind, h29, typeK]
        have hzc : (nd S q).kids = [((q + 1 : Nat) : Int)] := by rw [hz]
        obtain ⟨g, rfl⟩ : ∃ g, f' = g + 1 := ⟨f' - 1, by omega⟩
        show (match (nd S q).kids with
          | [k] => if (nd S q).kind == 29 && ins S k then mov S g k.toNat else (nd S q).kind == 17
          | _ => (nd S q).kind == 17) = true
        rw [hzc, hzk]
        have hI := seg_ins hc hkl hsk
        simp only [hI, Bool.and_true, beq_self_eq_true, if_true, Int.toNat_natCast]
        exact mov_keep hc f k.toNat (q + 1) g hkl h' hsk (by omega)
      · simp only [hb] at h'
        cases h'
end Go.Proofs.YtnnpkomedpjlcaaGreatDoor

/- What Strip leaves is a tree. -/
namespace Go.Proofs.YtnnpkomedpjlcaaGreatDoor
set_option linter.unusedSimpArgs false
set_option linter.unusedVariables false

theorem pl_keep {l S : List Nd} (hc : (chkP l).2 = 0) {f : Nat} (hf : f ∈ aF ∨ f ∈ bF ∨ f = 102) {n q : Nat} (hn : n < l.length) (h : plOf f l n = true) (hS : Seg S q (lay l n q)) : plOf f S q = true := by
  rcases hf with hf | hf | rfl
  · rw [apl_eq hf] at h ⊢
    exact apl_keep hf (kf_of hc hn hS) h
  · exact (bpl_keep hc hf hn h hS).1
  · exact mov_keep hc l.length n q S.length hn h hS (by omega)
theorem ok_pl {l : List Nd} {f : Nat} (hf : f ∈ aF ∨ f ∈ bF ∨ f = 102) {n : Nat} (h : plOf f l n = true) (hL : f = 60 ∨ f = 132 ∨ f = 133 → forT l n = false) : Ok l n := by
  rcases hf with hf | hf | rfl
  · exact ok_apl hf h hL
  · exact ok_bpl hf h
  · exact Ok.expr (mov_E _ _ h)
theorem pl_4850 {l : List Nd} {f : Nat} (hf : f ∈ aF ∨ f ∈ bF ∨ f = 102) {n : Nat} (h : plOf f l n = true) (hk : (nd l n).kind = 48 ∨ (nd l n).kind = 50) : f = 131 ∨ f = 132 := by
  rcases hf with hf | hf | rfl
  · rw [apl_eq hf] at h
    obtain ⟨_, _, _, _, _, a, b⟩ := apl_kinds hf h
    rcases hk with hk | hk
    · exact .inl (b hk)
    · exact .inr (a hk)
  · have := (bpl_kinds hf h).1; omega
  · have := isE_iff.1 (mov_E _ _ h); omega
theorem kz_keep {l S : List Nd} (hc : (chkP l).2 = 0) : ∀ (fs : List (Option Nat)) (ks : List Int) (p : Nat), (∀ g, some g ∈ fs → g ∈ aF ∨ g ∈ bF ∨ g = 102) → kz l fs ks = true → Seg S p (layK (lay l) ks p).2 → kz S fs (layK (lay l) ks p).1 = true
  | [], [], p, _, _, _ => rfl
  | [], _ :: _, p, _, h, _ => by cases h
  | none :: _, [], p, _, _, _ => rfl
  | none :: _, _ :: _, p, _, h, _ => by cases h
  | some _ :: _, [], p, _, h, _ => by cases h
  | some f :: fs, k :: ks, p, hg, h, hS => by
    simp only [kz, Bool.and_eq_true] at h
    simp only [layK] at hS ⊢
    obtain ⟨ha, hb⟩ := hS.app
    have hn := (ins_iff.1 h.1.1).2
    simp only [kz, Bool.and_eq_true, Int.toNat_natCast]
    exact ⟨⟨seg_ins hc hn ha, pl_keep hc (hg f (by simp)) hn h.1.2 ha⟩, kz_keep hc fs ks _ (fun g hm => hg g (by simp [hm])) h.2 hb⟩
theorem kz_mem {l : List Nd} : ∀ (fs : List (Option Nat)) (ks : List Int), kz l fs ks = true → ∀ k ∈ ks, ∃ g, some g ∈ fs ∧ ins l k = true ∧ plOf g l k.toNat = true
  | [], [], _, k, hk => by cases hk
  | [], _ :: _, h, _, _ => by cases h
  | none :: _, [], _, k, hk => by cases hk
  | none :: _, _ :: _, h, _, _ => by cases h
  | some _ :: _, [], h, _, _ => by cases h
  | some f :: fs, k0 :: ks, h, k, hk => by
    simp only [kz, Bool.and_eq_true] at h
    rcases List.mem_cons.1 hk with rfl | hk
    · exact ⟨f, by simp, h.1.1, h.1.2⟩
    · obtain ⟨g, a, b⟩ := kz_mem fs ks h.2 k hk
      exact ⟨g, by simp [a], b⟩
/-- The j-th kid is one of the j-th place. -/
theorem kz_nth {l : List Nd} : ∀ (fs : List (Option Nat)) (ks : List Int) (j g : Nat), kz l fs ks = true → fs[j]? = some (some g) → j < ks.length → plOf g l (ks.getD j 0).toNat = true
  | [], _, j, g, _, h, _ => by simp at h
  | none :: _, [], j, g, _, _, h => by simp at h
  | none :: _, _ :: _, j, g, h, _, _ => by cases h
  | some _ :: _, [], j, g, h, _, _ => by cases h
  | some f :: fs, k :: ks, j, g, h, hj, hl => by
    simp only [kz, Bool.and_eq_true] at h
    cases j with
    | zero =>
      simp only [List.getElem?_cons_zero, Option.some.injEq] at hj
      subst hj
      simpa using h.1.2
    | succ j =>
      have := kz_nth fs ks j g h.2 (by simpa using hj) (by simpa using hl)
      simpa using this

/-- Kinds whose nodes do not stay as they are. -/
def badK (k : Int) : Bool := k == 33 || k == 34 || k == 51 || k == 52 || k == 67 || k == 85 || typeK k
def plGood (k : Int) (o : Option Nat) : Bool := match o with
  | none => true
  | some f => (aF.contains f && f != 60 && f != 131 && f != 132 && (f != 133 || k == 50)) || bF.contains f || f == 102
def rowChk (kr : Int × RowV) : Bool := badK kr.1 || ((match kr.2.m with
  | none => plGood kr.1 kr.2.k0 && plGood kr.1 kr.2.k1 && plGood kr.1 kr.2.k2 && plGood kr.1 kr.2.k3 && kr.1 != 2 && kr.1 != 3 && kr.1 != 63 && kr.1 != 49
  | some f => (f == 92 && (kr.1 == 12 || kr.1 == 19)) || (f == 94 && kr.1 == 20) || (f == 131 && kr.1 == 47) || (f == 132 && kr.1 == 49) || (f == 59 && kr.1 == 2) || (f == 60 && (kr.1 == 3 || kr.1 == 63))) && (kr.2.a.isNone || kr.1 == 12 || kr.1 == 61) && (kr.2.n.isNone || kr.1 == 44 || kr.1 == 66 || kr.1 != 44))
set_option maxRecDepth 100000 in
theorem tab_chk : (tabTL ++ tabEL ++ tabSL).all rowChk = true := by decide
theorem lookup_pair {k : Int} {r : RowV} : ∀ {l : List (Int × RowV)}, l.lookup k = some r → (k, r) ∈ l
  | [], h => by cases h
  | (a, b) :: l, h => by
    simp only [List.lookup] at h
    split at h
    · rename_i e
      cases h
      rw [beq_iff_eq.1 e]
      simp
    · exact List.mem_cons_of_mem _ (lookup_pair h)
theorem tab_row {k : Int} {r : RowV} (h : tabT k = some r) : rowChk (k, r) = true := by
  refine List.all_eq_true.1 tab_chk _ ?_
  simp only [tabT] at h
  split at h
  · rename_i r' hr
    cases h
    simp [lookup_pair hr]
  · simp only [tabE] at h
    split at h
    · rename_i r' hr
      cases h
      simp [lookup_pair hr]
    · simp only [tabS] at h
      split at h
      · rename_i r' hr
        cases h
        simp [lookup_pair hr]
      · cases h
theorem plGood_some {k : Int} {f : Nat} (h : plGood k (some f) = true) : (f ∈ aF ∨ f ∈ bF ∨ f = 102) ∧ f ≠ 60 ∧ f ≠ 131 ∧ f ≠ 132 ∧ (f = 133 → k = 50) := by
  simp only [plGood, Bool.or_eq_true, Bool.and_eq_true, List.contains_iff_mem, bne_iff_ne, beq_iff_eq] at h
  rcases h with (⟨⟨⟨⟨h1, h2⟩, h3⟩, h4⟩, h5⟩ | h1) | h1
  · exact ⟨.inl h1, h2, h3, h4, fun h => by rcases h5 with h5 | h5 <;> first | exact absurd h h5 | exact h5⟩
  · have h2 := h1
    simp only [bF, List.mem_cons, List.not_mem_nil, or_false] at h2
    exact ⟨.inr (.inl h1), by omega, by omega, by omega, by omega⟩
  · exact ⟨.inr (.inr h1), by omega, by omega, by omega, by omega⟩
/-- What the table says of a kind that stays. -/
theorem row_facts {k : Int} {r : RowV} (h : tabT k = some r) (hb : badK k = false) : (r.m = none → (∀ g, some g ∈ [r.k0, r.k1, r.k2, r.k3] → (g ∈ aF ∨ g ∈ bF ∨ g = 102) ∧ g ≠ 60 ∧ g ≠ 131 ∧ g ≠ 132 ∧ (g = 133 → k = 50)) ∧ ruleF k = 46) ∧ (∀ f, r.m = some f → (f = 59 ∧ k = 2) ∨ (f = 60 ∧ (k = 3 ∨ k = 63)) ∨ (f = 132 ∧ k = 49) ∨ (f = 131 ∧ k = 47) ∨ (f = 92 ∧ (k = 12 ∨ k = 19)) ∨ (f = 94 ∧ k = 20)) ∧ (r.a = none ∨ k = 12 ∨ k = 61) := by
  have hc := tab_row h
  simp only [rowChk, hb, Bool.false_or, Bool.and_eq_true] at hc
  obtain ⟨⟨h1, h2⟩, _⟩ := hc
  refine ⟨fun hm => ?_, fun f hm => ?_, ?_⟩
  · rw [hm] at h1
    simp only [Bool.and_eq_true, bne_iff_ne] at h1
    obtain ⟨⟨⟨⟨⟨⟨⟨a0, a1⟩, a2⟩, a3⟩, b1⟩, b2⟩, b3⟩, b4⟩ := h1
    refine ⟨fun g hg => ?_, ?_⟩
    · simp only [List.mem_cons, List.not_mem_nil, or_false] at hg
      rcases hg with e | e | e | e
      · rw [← e] at a0; exact plGood_some a0
      · rw [← e] at a1; exact plGood_some a1
      · rw [← e] at a2; exact plGood_some a2
      · rw [← e] at a3; exact plGood_some a3
    · have ht : ¬ typeK k = true := by
        simp only [badK, Bool.or_eq_false_iff] at hb
        rw [hb.2]; decide
      rw [ruleF, if_neg (by omega), if_neg (by omega), if_neg ht]
  · rw [hm] at h1
    simp only [Bool.or_eq_true, Bool.and_eq_true, beq_iff_eq] at h1
    omega
  · simp only [Bool.or_eq_true, beq_iff_eq, Option.isNone_iff_eq_none] at h2
    rcases h2 with (h2 | h2) | h2
    · exact .inl h2
    · exact .inr (.inl h2)
    · exact .inr (.inr h2)
theorem fit_parts {l : List Nd} {n : Nat} (h : fitP l n = true) : ∃ r, tabT (nd l n).kind = some r ∧ txP r (nd l n).text = true ∧ nmP r (nd l n).num = true ∧ kidP r l (nd l n).kids = true := by
  simp only [fitP, Bool.and_eq_true] at h
  obtain ⟨⟨⟨h1, h2⟩, h3⟩, h4⟩ := h
  obtain ⟨r, hr⟩ := Option.isSome_iff_exists.1 h1
  rw [hr] at h2 h3 h4
  exact ⟨r, hr, h2, h3, h4⟩
theorem fit_mk {l : List Nd} {n : Nat} {r : RowV} (h1 : tabT (nd l n).kind = some r) (h2 : txP r (nd l n).text = true) (h3 : nmP r (nd l n).num = true) (h4 : kidP r l (nd l n).kids = true) : fitP l n = true := by
  simp only [fitP, h1, Option.isSome_some, Option.getD_some, h2, h3, h4, Bool.and_true]
theorem Ok.bad {l : List Nd} {m : Nat} (h : Ok l m) (hk : ¬ ((nd l m).kind = 33 ∨ (nd l m).kind = 34)) (ht : typeK (nd l m).kind = false) : badK (nd l m).kind = false := by
  have h1 : ((nd l m).kind == 33) = false := beq_eq_false_iff_ne.2 (by omega)
  have h2 : ((nd l m).kind == 34) = false := beq_eq_false_iff_ne.2 (by omega)
  have h3 : ((nd l m).kind == 51) = false := beq_eq_false_iff_ne.2 h.k51
  have h4 : ((nd l m).kind == 52) = false := beq_eq_false_iff_ne.2 h.k52
  have h5 : ((nd l m).kind == 67) = false := beq_eq_false_iff_ne.2 h.k67
  have h6 : ((nd l m).kind == 85) = false := beq_eq_false_iff_ne.2 h.k85
  simp [badK, h1, h2, h3, h4, h5, h6, ht]
/-- A node that stays, whole: where it sits, its kids. -/
structure Stay (l S : List Nd) (m p : Nat) : Prop where
  lt : m < l.length
  nas : ¬ ((nd l m).kind = 33 ∨ (nd l m).kind = 34)
  ok : Ok l m
  seg : Seg S p (lay l m p)
theorem Stay.at {l S : List Nd} (hc : (chkP l).2 = 0) {m p : Nat} (h : Stay l S m p) : p < S.length ∧ (nd S p).kids = (layK (lay l) (kp l m) (p + 1)).1 ∧ Seg S (p + 1) (layK (lay l) (kp l m) (p + 1)).2 := by
  obtain ⟨a, b, c⟩ := seg_at hc h.lt h.seg
  rw [inn_stop h.nas] at b c
  exact ⟨a, by rw [b], c⟩
theorem kp46 {l : List Nd} {m : Nat} (h : ruleF (nd l m).kind = 46) : kp l m = (nd l m).kids := by
  simp [kp, h, left46]
theorem kp_sub {l : List Nd} {m : Nat} {k : Int} (h : k ∈ kp l m) : k ∈ (nd l m).kids ∧ leftP (ruleF (nd l m).kind) l k.toNat = false := by
  have := List.mem_filter.1 h
  exact ⟨this.1, by simpa using this.2⟩
theorem pcs_keep {l S : List Nd} (hc : (chkP l).2 = 0) (ks : List Int) (p : Nat) (hi : ∀ k ∈ ks, ins l k = true) (h : pcs l ks = true) (hS : Seg S p (layK (lay l) ks p).2) : pcs S (layK (lay l) ks p).1 = true := by
  obtain ⟨e, hk⟩ := lay_kids ks p hS
  rw [pcs_iff] at h ⊢
  refine ⟨by rw [e]; exact h.1, fun j hj he => ?_⟩
  rw [e] at hj
  obtain ⟨q, a, _, b⟩ := hk j hj
  have h11 := h.2 j hj he
  rw [a, Int.toNat_natCast]
  have hm : ks.getD j 0 ∈ ks := by rw [List.getD_eq_getElem?_getD, List.getElem?_eq_getElem hj]; exact List.getElem_mem _
  have := ((kf_of hc (ins_iff.1 (hi _ hm)).2 b).s (by rw [h11]; rfl) (by omega) (by omega)).1
  omega
theorem fit_keep {l S : List Nd} (hc : (chkP l).2 = 0) {m p : Nat} (h : Stay l S m p) : fitP S p = true := by
  have hfit := (chk_all hc h.lt).fit
  have hkf := kf_of hc h.lt h.seg
  obtain ⟨hp, hkids, hsub⟩ := h.at hc
  cases ht : typeK (nd l m).kind with
  | true =>
    obtain ⟨a, b, c, d⟩ := hkf.t ht
    refine fit_mk (r := rowN) (by rw [a]; rfl) ?_ (by rw [c]; rfl) (by rw [d]; rfl)
    rw [b]
    show (ByteArray.toList ⟨#[]⟩).isEmpty = true
    rw [ba_toList]; decide
  | false =>
    obtain ⟨a, b, c, c44, c66⟩ := hkf.s ht (fun e => h.nas (.inl e)) (fun e => h.nas (.inr e))
    obtain ⟨r, hr, htx, hnm, hkd⟩ := fit_parts hfit
    obtain ⟨f1, f2, f3⟩ := row_facts hr (h.ok.bad h.nas ht)
    refine fit_mk (r := r) (by rw [a]; exact hr) (by rw [b]; exact htx) ?_ ?_
    · by_cases h44 : (nd l m).kind = 44
      · rw [c44 h44]
        rw [h44] at hr
        obtain rfl := Option.some.inj hr
        rfl
      · by_cases h66 : (nd l m).kind = 66
        · rw [c66 h66]
          rw [h66] at hr
          obtain rfl := Option.some.inj hr
          split <;> rfl
        · rw [c h44 h66]; exact hnm
    · rw [hkids]
      cases hm : r.m with
      | none =>
        obtain ⟨g1, g2⟩ := f1 hm
        rw [kp46 g2] at hsub ⊢
        obtain ⟨tt, nn, k0, k1, k2, k3, m', aa⟩ := r
        simp only at hm
        subst hm
        rw [kidP_kz, Bool.and_eq_true] at hkd ⊢
        refine ⟨kz_keep hc _ _ _ (fun g hg => (g1 g hg).1) hkd.1 hsub, ?_⟩
        rcases f3 with f3 | f3 | f3
        · simp only at f3; rw [f3]; rfl
        · rw [f3] at hr; exact absurd (Option.some.inj hr) (by simp)
        · rw [f3] at hr
          obtain ⟨rfl, rfl, rfl, rfl, rfl, rfl, -, rfl⟩ := RowV.mk.inj (Option.some.inj hr)
          have hz := hkd.1
          have h3 : 3 ≤ (nd l m).kids.length := kz_len3 hz
          have hcof : cof l (nd l m).kids = true := by simpa [alOf] using hkd.2
          obtain ⟨_, hnth⟩ := lay_kids _ _ hsub
          obtain ⟨q1, e1, _, s1⟩ := hnth 1 (by omega)
          obtain ⟨q2, e2, _, s2⟩ := hnth 2 (by omega)
          have hm1 : (nd l m).kids.getD 1 0 ∈ (nd l m).kids := by rw [List.getD_eq_getElem?_getD, List.getElem?_eq_getElem (by omega)]; exact List.getElem_mem _
          have hm2 : (nd l m).kids.getD 2 0 ∈ (nd l m).kids := by rw [List.getD_eq_getElem?_getD, List.getElem?_eq_getElem (by omega)]; exact List.getElem_mem _
          have p1 : ((nd l ((nd l m).kids.getD 1 0).toNat).kind == 62 || (nd l ((nd l m).kids.getD 1 0).toNat).kind == 1) = true := kz_nth _ _ 1 137 hz rfl (by omega)
          have p2 : ((nd l ((nd l m).kids.getD 2 0).toNat).kind == 63 || (nd l ((nd l m).kids.getD 2 0).toNat).kind == 1) = true := kz_nth _ _ 2 138 hz rfl (by omega)
          simp only [Bool.or_eq_true, beq_iff_eq] at p1 p2
          have z1 := ((kf_of hc (ins_iff.1 (fit_ins hfit _ hm1)).2 s1).s (by rcases p1 with h | h <;> rw [h] <;> rfl) (by omega) (by omega)).1
          have z2 := ((kf_of hc (ins_iff.1 (fit_ins hfit _ hm2)).2 s2).s (by rcases p2 with h | h <;> rw [h] <;> rfl) (by omega) (by omega)).1
          show (false || cof S _) = true
          rw [Bool.false_or]
          unfold cof at hcof ⊢
          rw [e1, e2, Int.toNat_natCast, Int.toNat_natCast, z1, z2]
          exact hcof
      | some f =>
        have hf := f2 f hm
        obtain ⟨tt, nn, k0, k1, k2, k3, m', aa⟩ := r
        simp only at hm
        subst hm
        rw [kidP_more, Bool.and_eq_true] at hkd ⊢
        refine ⟨?_, ?_⟩
        · refine kAll_keep hc (plOf f) (plOf f) _ _ (fun k hk => kAll_mem hkd.1 (kp_sub hk).1) (fun k hk q h1 h2 => ?_) hsub
          have hkl := (ins_iff.1 (kAll_mem hkd.1 (kp_sub hk).1).1).2
          rcases hf with ⟨rfl, _⟩ | ⟨rfl, _⟩ | ⟨rfl, _⟩ | ⟨rfl, _⟩ | ⟨rfl, _⟩ | ⟨rfl, _⟩
          · rfl
          · exact pl_keep hc (.inl (by decide)) hkl h1 h2
          · exact pl_keep hc (.inl (by decide)) hkl h1 h2
          · exact pl_keep hc (.inl (by decide)) hkl h1 h2
          · exact pl_keep hc (.inl (by decide)) hkl h1 h2
          · exact pl_keep hc (.inl (by decide)) hkl h1 h2
        · rcases f3 with f3 | f3 | f3
          · simp only at f3; rw [f3]; rfl
          · rw [f3] at hr
            obtain ⟨rfl, rfl, rfl, rfl, rfl, rfl, -, rfl⟩ := RowV.mk.inj (Option.some.inj hr)
            have hpc : pcs l (nd l m).kids = true := by simpa [alOf] using hkd.2
            have hr46 : ruleF (nd l m).kind = 46 := by rw [f3]; rfl
            rw [kp46 hr46] at hsub ⊢
            show (false || pcs S _) = true
            rw [Bool.false_or]
            exact pcs_keep hc _ _ (fun k hk => (kAll_mem hkd.1 hk).1) hpc hsub
          · rw [f3] at hr; exact absurd (Option.some.inj hr) (by simp)
/-- The kids that stay are of those that stay. -/
theorem kids_ok {l S : List Nd} (hc : (chkP l).2 = 0) {m p : Nat} (h : Stay l S m p) : ∀ k ∈ kp l m, ins l k = true ∧ Ok l k.toNat ∧ ((nd l k.toNat).kind = 48 ∨ (nd l k.toNat).kind = 50 → (nd l m).kind = 47 ∨ (nd l m).kind = 49) := by
  have hfit := (chk_all hc h.lt).fit
  intro k hk
  cases ht : typeK (nd l m).kind with
  | true => rw [kp_type ht] at hk; cases hk
  | false =>
    obtain ⟨hk1, hk2⟩ := kp_sub hk
    obtain ⟨r, hr, htx, hnm, hkd⟩ := fit_parts hfit
    obtain ⟨f1, f2, f3⟩ := row_facts hr (h.ok.bad h.nas ht)
    have hins := fit_ins hfit k hk1
    refine ⟨hins, ?_⟩
    cases hm : r.m with
    | none =>
      obtain ⟨g1, g2⟩ := f1 hm
      obtain ⟨tt, nn, k0, k1, k2, k3, m', aa⟩ := r
      simp only at hm
      subst hm
      rw [kidP_kz, Bool.and_eq_true] at hkd
      obtain ⟨g, a, _, b⟩ := kz_mem _ _ hkd.1 k hk1
      obtain ⟨c1, c2, c3, c4, c5⟩ := g1 g a
      refine ⟨ok_pl c1 b fun hg => ?_, fun hkk => by have := pl_4850 c1 b hkk; omega⟩
      have hg : g = 133 := by omega
      have h50 := c5 hg
      subst hg
      have hb' : expOk (nd l k.toNat).kind (nd l k.toNat).num = true := b
      have hno := expOk_facts hb'
      have hm1 : (nd l m).kids.getD 0 0 = k := by
        rw [h50] at hr
        obtain ⟨rfl, rfl, rfl, rfl, rfl, rfl, -, rfl⟩ := RowV.mk.inj (Option.some.inj hr)
        have hz := hkd.1
        match hks : (nd l m).kids with
        | [] => rw [hks] at hk1; cases hk1
        | [k'] => rw [hks] at hk1; simp at hk1; simp [hk1]
        | _ :: _ :: _ => rw [hks] at hz; simp [kz] at hz
      have hf := h.ok.k50 h50
      simp only [forT, expN, if_pos h50, hm1] at hf
      rw [forT_kind (by omega)]
      exact hf
    | some f =>
      have hf := f2 f hm
      obtain ⟨tt, nn, k0, k1, k2, k3, m', aa⟩ := r
      simp only at hm
      subst hm
      rw [kidP_more, Bool.and_eq_true] at hkd
      have hpl := (kAll_mem hkd.1 hk1).2
      rcases hf with ⟨rfl, h2⟩ | ⟨rfl, h2⟩ | ⟨rfl, h2⟩ | ⟨rfl, h2⟩ | ⟨rfl, h2⟩ | ⟨rfl, h2⟩
      · have hls := lsK_iff.1 (h.ok.k2 h2 k hk1)
        have hnl : listT l k.toNat = false := by rw [h2] at hk2; exact hk2
        have n67 : (nd l k.toNat).kind ≠ 67 := fun e => by rw [listT_67 e] at hnl; cases hnl
        have nty : ¬ typeK (nd l k.toNat).kind = true := fun e => by rw [listT_type e] at hnl; cases hnl
        rw [isE_iff] at hls
        refine ⟨⟨?_, ?_, n67, ?_, ?_, ?_, ?_⟩, ?_⟩
        · intro e; rcases hls with h | h | h | h | h | h | h <;> first | omega | exact nty h
        · intro e; rcases hls with h | h | h | h | h | h | h <;> first | omega | exact nty h
        · intro e; rcases hls with h | h | h | h | h | h | h <;> first | omega | exact nty h
        · intro e; rcases hls with h | h | h | h | h | h | h <;> first | omega | exact absurd h nty
        · intro e
          simp only [listT, e] at hnl
          simp at hnl
          exact hnl.2
        · intro e; rcases hls with h | h | h | h | h | h | h <;> first | omega | exact absurd h nty
        · intro e; rcases hls with h | h | h | h | h | h | h <;> first | omega | exact absurd h nty
      · have hnl : forT l k.toNat = false := by rcases h2 with h2 | h2 <;> (rw [h2] at hk2; exact hk2)
        exact ⟨ok_pl (.inl (by decide)) hpl fun _ => hnl, fun hkk => by have := pl_4850 (.inl (by decide)) hpl hkk; omega⟩
      · have hnl : forT l k.toNat = false := by rw [h2] at hk2; exact hk2
        exact ⟨ok_pl (.inl (by decide)) hpl fun _ => hnl, fun _ => .inr h2⟩
      · exact ⟨ok_pl (.inl (by decide)) hpl (by omega), fun _ => .inl h2⟩
      · exact ⟨ok_pl (.inl (by decide)) hpl (by omega), fun hkk => by have := pl_4850 (.inl (by decide)) hpl hkk; omega⟩
      · exact ⟨ok_pl (.inl (by decide)) hpl (by omega), fun hkk => by have := pl_4850 (.inl (by decide)) hpl hkk; omega⟩
end Go.Proofs.YtnnpkomedpjlcaaGreatDoor

/- core.Strip in general. -/
namespace Go.Proofs.YtnnpkomedpjlcaaGreatDoor
set_option linter.unusedSimpArgs false
set_option linter.unusedVariables false
open Go.RowKit Go.Shelf

/-- Kinds of expressions. -/
def exprK (k : Int) : Bool := decide (10 ≤ k) && decide (k ≤ 34) && k != 21
set_option maxRecDepth 100000 in
set_option maxHeartbeats 4000000 in
theorem exprK_any (W : World) (k : Int) : Calls Tryz.prog 24 #[.int .i64 k] W fun e w' => e = .returned (.bool (exprK k)) ∧ w' = W := by
  unfold exprK
  by_cases h1 : (10 : Int) ≤ k
  · by_cases h2 : k ≤ 34
    · by_cases h3 : k = 21
      · subst h3
        go_enter Tryz.func24, Tryz.ntmps24
        go_wp2
        go_ret
        exact ⟨rfl, rfl⟩
      · have h3' : (k != 21) = true := by simpa using h3
        have d1 : decide ((10 : Int) ≤ k) = true := decide_eq_true h1
        have d2 : decide (k ≤ (34 : Int)) = true := decide_eq_true h2
        rw [d1, d2, h3']
        go_enter Tryz.func24, Tryz.ntmps24
        go_wp2
        go_ret
        exact ⟨rfl, rfl⟩
    · have d1 : decide ((10 : Int) ≤ k) = true := decide_eq_true h1
      have d2 : decide (k ≤ (34 : Int)) = false := decide_eq_false h2
      rw [d1, d2]
      go_enter Tryz.func24, Tryz.ntmps24
      go_wp2
      go_ret
      exact ⟨rfl, rfl⟩
  · have d1 : decide ((10 : Int) ≤ k) = false := decide_eq_false h1
    rw [d1]
    go_enter Tryz.func24, Tryz.ntmps24
    go_wp2
    go_ret
    exact ⟨rfl, rfl⟩
/-- A row of nodes of the call's own, a cell ahead of it set. -/
theorem OwnN.low {w : World} {B B' k : Nat} {v y : Value} {es : List NE} (h : OwnN w B v es) (hk : k < B) (hB : B' ≤ B) : OwnN (w.setCell ⟨k, 0, none⟩ y) B' v es := by
  refine ⟨(ownsRow_heap h.1 fun g hg => Below.heap_setCell _ _ _ _ (by have := (h.1.lt g hg).1; show g ≠ k; omega)).mono hB, fun e he => ?_⟩
  obtain ⟨k1, k2, k3⟩ := h.2 e he
  refine ⟨k1, k2, ?_⟩
  rcases k3 with k3 | ⟨kb, cur, ha, hkb, hkh, hkc⟩
  · exact .inl k3
  · exact .inr ⟨kb, cur, ha, by omega, (Below.heap_setCell _ _ _ _ (by show kb ≠ k; omega)).trans hkh, hkc⟩
/-- May this be stripped? -/
def topK (l : List Nd) : Bool := (nd l 0).kind == 3 || exprK (nd l 0).kind

set_option maxRecDepth 100000 in
set_option maxHeartbeats 4000000 in
theorem strip_yes (W : World) (M : Nat) (v : Value) (l : List Nd) (hN : Nodes W M v l) (hM : M ≤ W.heap.size) (hl : l.length ≤ 100000) (hc : (chkP l).2 = 0) (ht : topK l = true) :
    Calls Tryz.prog 12 #[.agg #[v]] W fun e w' => ∃ v' es, e = .returned (.tuple #[.agg #[v'], .int .i64 0]) ∧ es.map NE.x = stripP l ∧ OwnN w' W.heap.size v' es ∧ Below W.heap.size W w' := by
  have hl0 : 0 < l.length := (chk_fine hc).1
  obtain ⟨b, o, cap, ka, kc, rfl, hc1, hc2, hb, d0, _, _, _, _, _, _, _⟩ := hN.at hl0
  obtain ⟨W1, hW1⟩ : ∃ W1, (W.alloc (.cells #[.slice (some ⟨b, o, none⟩) l.length cap] 24)).alloc (.cells #[.slice none 0 0] 24) = W1 := ⟨_, rfl⟩
  have hB1 : Below W.heap.size W W1 := by rw [← hW1]; exact ((Below.refl _ W).alloc (Nat.le_refl _) _).alloc (by simp) _
  have hz1 : W1.heap.size = W.heap.size + 1 + 1 := by rw [← hW1]; simp
  have hx1 : W1.heap[W.heap.size]? = some (.cells #[.slice (some ⟨b, o, none⟩) l.length cap] 24) := by rw [← hW1]; exact rat_a2 W _ _
  have hx2 : W1.heap[W.heap.size + 1]? = some (.cells #[.slice none 0 0] 24) := by
    rw [← hW1]
    have := World.alloc_heap_new (W.alloc (.cells #[.slice (some ⟨b, o, none⟩) l.length cap] 24)) (.cells #[.slice none 0 0] 24)
    rw [World.size_alloc] at this
    exact this
  have HC := hide (check_ok W1 M _ l (hN.keep hB1 hM) (Nat.le_trans hM hB1.size))
  obtain ⟨c1, hc1'⟩ : ∃ c1, (chkP l).1 = c1 := ⟨_, rfl⟩
  rw [hc, hc1'] at HC
  have HBX : Hid (∀ w', Below W1.heap.size W1 w' → Below W.heap.size W w' ∧ w'.cell? ⟨W.heap.size, 0, none⟩ = some (.slice (some ⟨b, o, none⟩) l.length cap) ∧ w'.cell? ⟨W.heap.size + 1, 0, none⟩ = some (.slice none 0 0) ∧ w'.frozen? ⟨W.heap.size + 1, 0, none⟩ = false ∧ W.heap.size < w'.heap.size ∧ W.heap.size + 1 < w'.heap.size ∧ Nodes w' M (.slice (some ⟨b, o, none⟩) l.length cap) l ∧ w'.cell? ⟨b, o, none⟩ = some (.int .i64 (nd l 0).kind) ∧ b < w'.heap.size) := fun w' h => by
    have hs := h.size
    have hw := hB1.trans (h.mono (by omega))
    have y1 := (h.block W.heap.size (by omega)).trans hx1
    have y2 := (h.block (W.heap.size + 1) (by omega)).trans hx2
    have hd0 : W.cell? ⟨b, o, none⟩ = some (.int .i64 (nd l 0).kind) := d0
    exact ⟨hw, by rw [Lib.cell_of_heap y1]; rfl, by rw [Lib.cell_of_heap y2]; rfl, rfrozen_at y2 0, by omega, by omega, hN.keep hw hM, (hw.cell (p := ⟨b, o, none⟩) (by show b < W.heap.size; omega)).trans hd0, by omega⟩
  have HW1 := hide hW1
  have HZ1 := hide hz1
  have HX2 := hide hx2
  obtain ⟨k0, hk0⟩ : ∃ k0, (nd l 0).kind = k0 := ⟨_, rfl⟩
  have HK0 := hide hk0
  rw [hk0] at HBX
  have hl0' : (0 : Int) < (l.length : Int) := by omega
  have HEX := hide fun w' => exprK_any w' k0
  have hk3 : (k0 != 3) = false ∨ ((k0 != 3) = true ∧ exprK k0 = true) := by
    unfold topK at ht
    rw [hk0] at ht
    by_cases h : k0 = 3
    · exact .inl (by simp [h])
    · refine .inr ⟨by simpa using h, ?_⟩
      have : (k0 == 3) = false := beq_eq_false_iff_ne.2 h
      rw [this, Bool.false_or] at ht
      exact ht
  have hen : en l 0 = l.length := (chk_fine hc).2.2
  have HHC := hide hc
  clear hN hB1 hW1 hx1 hx2 hz1 d0 hc1' hc ht hk0
  rcases hk3 with hk3 | ⟨hk3, hex⟩
  all_goals (
    go_enter Tryz.func12, Tryz.ntmps12
    go_wp2_with (first
      | (go_at_call 17
         rw [unhide HW1]
         refine (unhide HC).mono ?_
         rintro e w2 ⟨rfl, hB2⟩
         obtain ⟨_, x1, x2, x3, x4, x5, hN2, n0, hb2⟩ := unhide HBX w2 hB2
         obtain ⟨W5, hW5⟩ : ∃ W5, w2.alloc (.cells #[.slice (some ⟨b, o, none⟩) l.length cap, .slice none 0 0] 50) = W5 := ⟨_, rfl⟩
         have hB25 : Below w2.heap.size w2 W5 := (by rw [← hW5]; exact (Below.refl _ w2).alloc (Nat.le_refl _) _)
         have hz5 : W5.heap.size = w2.heap.size + 1 := (by rw [← hW5]; simp)
         have hS5 : StAt W5 w2.heap.size w2.heap.size (.slice (some ⟨b, o, none⟩) l.length cap) (.slice none 0 0) [] := ⟨(by rw [← hW5]; exact World.alloc_heap_new w2 _), World.ownsRow_nil _ _ _ _, fun e he => (by cases he)⟩
         have hsz2 := hB2.size
         have HSP := hide (strip_any (unhide HHC) hl M w2.heap.size w2.heap.size (.slice (some ⟨b, o, none⟩) l.length cap) (by have := unhide HZ1; omega) (Nat.le_refl _) _ 0 (Nat.le_refl _) hl0 W5 (.slice none 0 0) [] (hN2.keep hB25 (by have := unhide HZ1; omega)) (by omega) hS5 (by rw [hen]; simp; omega))
         have HW5 := hide hW5
         have HS5 := hide hS5
         have HB2 := hide hB2
         have HB25 := hide hB25
         have HZ5 := hide hz5
         rw [unhide HK0] at HSP
         clear hB2 hN2 hW5 hS5 hB25 hz5 hsz2)
      | (go_at_call 24; refine (unhide HEX _).mono ?_; rw [hex]; rintro e w3 ⟨rfl, hw3⟩; rw [hw3]; clear hw3)
      | (go_at_call 26; refine (rule_any _ _).mono ?_; rintro e w4 ⟨rfl, hw4⟩; rw [hw4]; clear hw4)
      | (go_at_call 25
         rw [unhide HW5]
         refine (unhide HSP).mono ?_
         rintro e w6 ⟨rfl, lv6, es6, hst6, hmap6, hnew6, hf6⟩
         have hB56 := hf6.below (unhide HS5) (Nat.le_refl _) (by have := unhide HZ5; omega)
         have hB26 := (unhide HB25).trans hB56
         have hB16 := (unhide HB2).trans (hB26.mono (unhide HB2).size)
         obtain ⟨_, v1, v2, v3, v4, v5, _, _, _⟩ := unhide HBX w6 hB16
         obtain ⟨ga, gc, rfl, _, _⟩ : ∃ a c, lv6 = .slice a es6.length c ∧ es6.length ≤ c ∧ True := (by
           rcases hst6.2.1.2 with ⟨rfl, h0⟩ | ⟨g, c, cur, rfl, _, _, hc', _⟩
           · exact ⟨none, 0, by simp at h0; simp [h0], by simp at h0; simp [h0], trivial⟩
           · exact ⟨_, _, rfl, by simpa using hc', trivial⟩)
         have u1 : w6.cell? ⟨w2.heap.size, 1, none⟩ = some (.slice ga es6.length gc) := (by rw [Lib.cell_of_heap hst6.1]; rfl)
         have ul : w2.heap.size < w6.heap.size := (Array.getElem?_eq_some_iff.1 hst6.1).1
         have HB16 := hide hB16
         have HST6 := hide hst6
         have HMP6 := hide hmap6
         clear hB56 hB26 hst6 hB16 hmap6 hnew6 hf6))
    have hz := unhide HZ1
    have hlow : W.heap.size + 1 < w2.heap.size := by have := (unhide HB2).size; omega
    have hO6 : OwnN w6 w2.heap.size (.slice ga es6.length gc) es6 := by have := (unhide HST6).2; simpa using this
    obtain ⟨W7, hW7⟩ : ∃ W7, w6.setCell ⟨W.heap.size + 1, 0, none⟩ (.slice ga es6.length gc) = W7 := ⟨_, rfl⟩
    have hO7 : OwnN W7 W.heap.size (.slice ga es6.length gc) es6 := by rw [← hW7]; exact hO6.low hlow (by omega)
    have hx6 : w6.heap[W.heap.size + 1]? = some (.cells #[.slice none 0 0] 24) := ((unhide HB16).block (W.heap.size + 1) (by omega)).trans (unhide HX2)
    have hx7 : W7.heap[W.heap.size + 1]? = some (.cells #[.slice ga es6.length gc] 24) := by rw [← hW7]; exact setK hx6 0 _
    have r7 : W7.cell? ⟨W.heap.size + 1, 0, none⟩ = some (.slice ga es6.length gc) := by rw [Lib.cell_of_heap hx7]; rfl
    have hB7 : Below W.heap.size W W7 := by rw [← hW7]; exact ((unhide HBX w6 (unhide HB16)).1).setCell (p := ⟨W.heap.size + 1, 0, none⟩) (by show W.heap.size ≤ W.heap.size + 1; omega) _
    rw [hW7]
    exact bodyPost_ret (v := .tuple #[.agg #[.slice ga es6.length gc], .int .i64 0]) (by simp [results, Tryz.results12, go_sem, r7]) rfl ⟨_, es6, rfl, by rw [unhide HMP6]; rfl, hO7, hB7⟩)
end Go.Proofs.YtnnpkomedpjlcaaGreatDoor

/- core.Strip of what may not be stripped. -/
namespace Go.Proofs.YtnnpkomedpjlcaaGreatDoor
set_option linter.unusedSimpArgs false
set_option linter.unusedVariables false
open Go.RowKit Go.Shelf

/-- Nothing comes back but an error. -/
def StripNo (k : Int) (W : World) (e : Ending) (w' : World) : Prop := e = .returned (.tuple #[.agg #[.slice none 0 0], .int .i64 k]) ∧ Below W.heap.size W w'
set_option maxRecDepth 100000 in
set_option maxHeartbeats 4000000 in
theorem strip_bad (W : World) (M : Nat) (v : Value) (l : List Nd) (hN : Nodes W M v l) (hM : M ≤ W.heap.size) (hc : ¬ (chkP l).2 = 0) : Calls Tryz.prog 12 #[.agg #[v]] W (StripNo (chkP l).2 W) := by
  obtain ⟨va, vc, rfl, _, _⟩ := hN.len
  obtain ⟨W1, hW1⟩ : ∃ W1, (W.alloc (.cells #[.slice va l.length vc] 24)).alloc (.cells #[.slice none 0 0] 24) = W1 := ⟨_, rfl⟩
  have hB1 : Below W.heap.size W W1 := by rw [← hW1]; exact ((Below.refl _ W).alloc (Nat.le_refl _) _).alloc (by simp) _
  have hz1 : W1.heap.size = W.heap.size + 1 + 1 := by rw [← hW1]; simp
  have hx2 : W1.heap[W.heap.size + 1]? = some (.cells #[.slice none 0 0] 24) := by
    rw [← hW1]
    have := World.alloc_heap_new (W.alloc (.cells #[.slice va l.length vc] 24)) (.cells #[.slice none 0 0] 24)
    rw [World.size_alloc] at this
    exact this
  have HC := hide (check_ok W1 M _ l (hN.keep hB1 hM) (Nat.le_trans hM hB1.size))
  obtain ⟨c1, hc1'⟩ : ∃ c1, (chkP l).1 = c1 := ⟨_, rfl⟩
  obtain ⟨c2, hc2'⟩ : ∃ c2, (chkP l).2 = c2 := ⟨_, rfl⟩
  rw [hc2'] at hc ⊢
  rw [hc2', hc1'] at HC
  have hcb : (c2 != 0) = true := by simpa using hc
  have HBX : Hid (∀ w', Below W1.heap.size W1 w' → Below W.heap.size W w' ∧ w'.heap[W.heap.size + 1]? = some (.cells #[.slice none 0 0] 24) ∧ W.heap.size + 1 < w'.heap.size) := fun w' h => by
    have hs := h.size
    exact ⟨hB1.trans (h.mono (by omega)), (h.block (W.heap.size + 1) (by omega)).trans hx2, by omega⟩
  have HW1 := hide hW1
  clear hN hB1 hW1 hx2 hz1 hc1' hc2' hc
  go_enter Tryz.func12, Tryz.ntmps12
  go_wp2_with (go_at_call 17; rw [unhide HW1]; refine (unhide HC).mono ?_; rintro e w2 ⟨rfl, hB2⟩; obtain ⟨_, x2, x5⟩ := unhide HBX w2 hB2; have y2 : w2.cell? ⟨W.heap.size + 1, 0, none⟩ = some (.slice none 0 0) := (by rw [Lib.cell_of_heap x2]; rfl); have y3 := rfrozen_at x2 0; have HB2 := hide hB2; have HX2 := hide x2; clear hB2 x2)
  have hx7 := setK (unhide HX2) 0 (.slice none 0 0)
  have hB7 := (unhide HBX w2 (unhide HB2)).1.setCell (p := ⟨W.heap.size + 1, 0, none⟩) (by show W.heap.size ≤ W.heap.size + 1; omega) (.slice none 0 0)
  obtain ⟨W7, hW7⟩ : ∃ W7, w2.setCell ⟨W.heap.size + 1, 0, none⟩ (.slice none 0 0) = W7 := ⟨_, rfl⟩
  rw [hW7] at hx7 hB7 ⊢
  have r7 : W7.cell? ⟨W.heap.size + 1, 0, none⟩ = some (.slice none 0 0) := by rw [Lib.cell_of_heap hx7]; rfl
  exact bodyPost_ret (v := .tuple #[.agg #[.slice none 0 0], .int .i64 c2]) (by simp [results, Tryz.results12, go_sem, r7]) rfl ⟨rfl, hB7⟩

set_option maxRecDepth 100000 in
set_option maxHeartbeats 4000000 in
theorem strip_no (W : World) (M : Nat) (v : Value) (l : List Nd) (hN : Nodes W M v l) (hM : M ≤ W.heap.size) (hc : (chkP l).2 = 0) (ht : topK l = false) : Calls Tryz.prog 12 #[.agg #[v]] W (StripNo 7 W) := by
  have hl0 : 0 < l.length := (chk_fine hc).1
  obtain ⟨b, o, cap, ka, kc, rfl, hc1, hc2, hb, d0, _, _, _, _, _, _, _⟩ := hN.at hl0
  obtain ⟨W1, hW1⟩ : ∃ W1, (W.alloc (.cells #[.slice (some ⟨b, o, none⟩) l.length cap] 24)).alloc (.cells #[.slice none 0 0] 24) = W1 := ⟨_, rfl⟩
  have hB1 : Below W.heap.size W W1 := by rw [← hW1]; exact ((Below.refl _ W).alloc (Nat.le_refl _) _).alloc (by simp) _
  have hz1 : W1.heap.size = W.heap.size + 1 + 1 := by rw [← hW1]; simp
  have hx1 : W1.heap[W.heap.size]? = some (.cells #[.slice (some ⟨b, o, none⟩) l.length cap] 24) := by rw [← hW1]; exact rat_a2 W _ _
  have hx2 : W1.heap[W.heap.size + 1]? = some (.cells #[.slice none 0 0] 24) := by
    rw [← hW1]
    have := World.alloc_heap_new (W.alloc (.cells #[.slice (some ⟨b, o, none⟩) l.length cap] 24)) (.cells #[.slice none 0 0] 24)
    rw [World.size_alloc] at this
    exact this
  have HC := hide (check_ok W1 M _ l (hN.keep hB1 hM) (Nat.le_trans hM hB1.size))
  obtain ⟨c1, hc1'⟩ : ∃ c1, (chkP l).1 = c1 := ⟨_, rfl⟩
  rw [hc, hc1'] at HC
  obtain ⟨k0, hk0⟩ : ∃ k0, (nd l 0).kind = k0 := ⟨_, rfl⟩
  have HBX : Hid (∀ w', Below W1.heap.size W1 w' → Below W.heap.size W w' ∧ w'.cell? ⟨W.heap.size, 0, none⟩ = some (.slice (some ⟨b, o, none⟩) l.length cap) ∧ w'.heap[W.heap.size + 1]? = some (.cells #[.slice none 0 0] 24) ∧ W.heap.size < w'.heap.size ∧ W.heap.size + 1 < w'.heap.size ∧ w'.cell? ⟨b, o, none⟩ = some (.int .i64 k0) ∧ b < w'.heap.size) := fun w' h => by
    have hs := h.size
    have hw := hB1.trans (h.mono (by omega))
    have y1 := (h.block W.heap.size (by omega)).trans hx1
    have hd0 : W.cell? ⟨b, o, none⟩ = some (.int .i64 k0) := by rw [← hk0]; exact d0
    exact ⟨hw, by rw [Lib.cell_of_heap y1]; rfl, (h.block (W.heap.size + 1) (by omega)).trans hx2, by omega, by omega, (hw.cell (p := ⟨b, o, none⟩) (by show b < W.heap.size; omega)).trans hd0, by omega⟩
  have HW1 := hide hW1
  have hl0' : (0 : Int) < (l.length : Int) := by omega
  have HEX := hide fun w' => exprK_any w' k0
  unfold topK at ht
  rw [hk0, Bool.or_eq_false_iff] at ht
  obtain ⟨h3, hex⟩ := ht
  have hk3 : (k0 != 3) = true := by simpa using h3
  clear hN hB1 hW1 hx1 hx2 hz1 d0 hc1' hc hk0 h3
  go_enter Tryz.func12, Tryz.ntmps12
  go_wp2_with (first
    | (go_at_call 17; rw [unhide HW1]; refine (unhide HC).mono ?_; rintro e w2 ⟨rfl, hB2⟩; obtain ⟨_, x1, x2, x4, x5, n0, hb2⟩ := unhide HBX w2 hB2; have y2 : w2.cell? ⟨W.heap.size + 1, 0, none⟩ = some (.slice none 0 0) := (by rw [Lib.cell_of_heap x2]; rfl); have y3 := rfrozen_at x2 0; have HB2 := hide hB2; have HX2 := hide x2; clear hB2 x2)
    | (go_at_call 24; refine (unhide HEX _).mono ?_; rw [hex]; rintro e w3 ⟨rfl, hw3⟩; rw [hw3]; clear hw3))
  have hx7 := setK (unhide HX2) 0 (.slice none 0 0)
  have hB7 := (unhide HBX w2 (unhide HB2)).1.setCell (p := ⟨W.heap.size + 1, 0, none⟩) (by show W.heap.size ≤ W.heap.size + 1; omega) (.slice none 0 0)
  obtain ⟨W7, hW7⟩ : ∃ W7, w2.setCell ⟨W.heap.size + 1, 0, none⟩ (.slice none 0 0) = W7 := ⟨_, rfl⟩
  rw [hW7] at hx7 hB7 ⊢
  have r7 : W7.cell? ⟨W.heap.size + 1, 0, none⟩ = some (.slice none 0 0) := by rw [Lib.cell_of_heap hx7]; rfl
  exact bodyPost_ret (v := .tuple #[.agg #[.slice none 0 0], .int .i64 7]) (by simp [results, Tryz.results12, go_sem, r7]) rfl ⟨rfl, hB7⟩
end Go.Proofs.YtnnpkomedpjlcaaGreatDoor

/- What Strip leaves: a tree, its own Strip, plain but for what makes something; a plain tree is its own Strip. -/
namespace Go.Proofs.YtnnpkomedpjlcaaGreatDoor
set_option linter.unusedSimpArgs false
set_option linter.unusedVariables false

theorem look_chain {l : List Nd} {n : Nat} : ∀ (ks : List Int) (next e : Nat), Chain l ks next e → lookK (lookP l l.length) n ks next = (-1, e)
  | [], next, e, h => by rw [show e = next from h]; rfl
  | k :: ks, next, e, h => by
    obtain ⟨h1, h2, h3⟩ := h
    simp only [lookK]
    rw [if_pos h1, if_pos h2.2]
    exact look_chain ks _ e h3
theorem fine_mk {l : List Nd} {p e : Nat} (hp : p < l.length) (hf : fitP l p = true) (h : Chain l (nd l p).kids (p + 1) e) : Fine l p ∧ en l p = e := by
  have e1 := (look_step hp hf).trans (look_chain (n := p) _ _ _ h)
  exact ⟨⟨hp, by rw [e1]; show (-1 : Int) < 0; decide⟩, by rw [en, e1]⟩
/-- Something is made: an Enum or a Namespace. -/
def Mk (S : List Nd) : Prop := ∃ q, q < S.length ∧ ((nd S q).kind = 47 ∨ (nd S q).kind = 49)
/-- What holds of a node's rest. -/
def Tr (l S : List Nd) (m p : Nat) : Prop := Fine S p ∧ en S p = p + (lay l m p).length ∧ ∀ q, p ≤ q → q < p + (lay l m p).length → (∃ m', Stay l S m' q) ∧ (p < q → (nd S q).kind = 48 ∨ (nd S q).kind = 50 → Mk S)
theorem kids_tree {l S : List Nd} (hc : (chkP l).2 = 0) {d : Nat} (IH : ∀ m p, en l m - m ≤ d → Stay l S m p → Tr l S m p) : ∀ (ks : List Int) (p : Nat), (∀ k ∈ ks, ins l k = true ∧ Ok l k.toNat ∧ en l k.toNat - k.toNat ≤ d) → Seg S p (layK (lay l) ks p).2 →
    Chain S (layK (lay l) ks p).1 p (p + (layK (lay l) ks p).2.length) ∧ ∀ q, p ≤ q → q < p + (layK (lay l) ks p).2.length → (∃ m', Stay l S m' q) ∧ ((nd S q).kind = 48 ∨ (nd S q).kind = 50 → (∃ k ∈ ks, (nd l k.toNat).kind = 48 ∨ (nd l k.toNat).kind = 50) ∨ Mk S)
  | [], p, _, _ => ⟨by simp [layK, Chain], fun q h1 h2 => by simp [layK] at h2; omega⟩
  | k :: ks, p, h, hS => by
    simp only [layK] at hS ⊢
    obtain ⟨ha, hb⟩ := hS.app
    obtain ⟨i1, i2, i3⟩ := h k (by simp)
    have hn := (ins_iff.1 i1).2
    obtain ⟨a1, a2, a3, a4⟩ := inn_in' hc hn
    have hst : Stay l S (inn l k.toNat) p := ⟨a2, a4, i2.inn hc hn, by rw [← lay_inn hc hn]; exact ha⟩
    obtain ⟨b1, b2, b3⟩ := IH _ p (by omega) hst
    rw [← lay_inn hc hn] at b2 b3
    obtain ⟨c1, c2⟩ := kids_tree hc IH ks _ (fun k' hk' => h k' (by simp [hk'])) hb
    have hlen : p + (lay l k.toNat p ++ (layK (lay l) ks (p + (lay l k.toNat p).length)).2).length = p + (lay l k.toNat p).length + (layK (lay l) ks (p + (lay l k.toNat p).length)).2.length := by rw [List.length_append]; omega
    rw [hlen]
    refine ⟨⟨rfl, b1, by rw [b2]; exact c1⟩, fun q h1 h2 => ?_⟩
    by_cases hq : q < p + (lay l k.toNat p).length
    · obtain ⟨d1, d2⟩ := b3 q h1 hq
      refine ⟨d1, fun hk => ?_⟩
      by_cases hpq : p < q
      · exact .inr (d2 hpq hk)
      · obtain rfl : q = p := by omega
        refine .inl ⟨k, by simp, ?_⟩
        have hkf := kf_of hc hn ha
        cases ht : typeK (nd l k.toNat).kind with
        | true => have := (hkf.t ht).1; omega
        | false =>
          by_cases hE : isE (nd l k.toNat).kind = true
          · have := isE_iff.1 (hkf.e hE).1; omega
          · have h33 : (nd l k.toNat).kind ≠ 33 := fun e => hE (about_isE (.inl e))
            have h34 : (nd l k.toNat).kind ≠ 34 := fun e => hE (about_isE (.inr e))
            have := (hkf.s ht h33 h34).1
            omega
    · obtain ⟨d1, d2⟩ := c2 q (by omega) h2
      refine ⟨d1, fun hk => ?_⟩
      rcases d2 hk with ⟨k', m1, m2⟩ | m
      · exact .inl ⟨k', by simp [m1], m2⟩
      · exact .inr m
theorem stay_tree {l S : List Nd} (hc : (chkP l).2 = 0) : ∀ (d m p : Nat), en l m - m ≤ d → Stay l S m p → Tr l S m p
  | 0, m, p, hd, h => by have := (chk_all hc h.lt).le; omega
  | d + 1, m, p, hd, h => by
    have hfi := chk_all hc h.lt
    obtain ⟨hp, hkids, hsub⟩ := h.at hc
    have hlen : (lay l m p).length = 1 + (layK (lay l) (kp l m) (p + 1)).2.length := by
      rw [lay_eq hc h.lt, inn_stop h.nas]; simp; omega
    have hko := kids_ok hc h
    obtain ⟨c1, c2⟩ := kids_tree (S := S) hc (stay_tree hc d) (kp l m) (p + 1) (fun k hk => by
      obtain ⟨q, e, hq, h1, h2⟩ := chain_kids _ _ _ hfi.chain k (kp_sub hk).1
      obtain ⟨i1, i2, _⟩ := hko k hk
      refine ⟨i1, i2, ?_⟩
      rw [e, Int.toNat_natCast]
      omega) hsub
    rw [← hkids] at c1
    obtain ⟨f1, f2⟩ := fine_mk hp (fit_keep hc h) c1
    refine ⟨f1, by rw [f2, hlen]; omega, fun q h1 h2 => ?_⟩
    by_cases hq : q = p
    · subst hq
      exact ⟨⟨m, h⟩, fun hlt => absurd hlt (Nat.lt_irrefl _)⟩
    · obtain ⟨d1, d2⟩ := c2 q (by omega) (by omega)
      refine ⟨d1, fun _ hk => ?_⟩
      rcases d2 hk with ⟨k, m1, m2⟩ | m
      · have hm := (hko k m1).2.2 m2
        have hkf := kf_of hc h.lt h.seg
        have := (hkf.s (by rcases hm with e | e <;> rw [e] <;> rfl) (by omega) (by omega)).1
        exact ⟨p, hp, by omega⟩
      · exact m
theorem topK_iff {l : List Nd} : topK l = true ↔ (nd l 0).kind = 3 ∨ isE (nd l 0).kind = true := by
  have : exprK (nd l 0).kind = isE (nd l 0).kind := by simp only [exprK, isE, bne]
  simp only [topK, Bool.or_eq_true, beq_iff_eq, this]
theorem stay_root {l : List Nd} (hc : (chkP l).2 = 0) (ht : topK l = true) : Stay l (stripP l) (inn l 0) 0 := by
  have h0 := (chk_fine hc).1
  obtain ⟨a, b, c, d⟩ := inn_in' hc h0
  have hok : Ok l 0 := by
    rcases topK_iff.1 ht with h | h
    · exact ⟨by omega, by omega, by omega, by omega, by omega, by omega, by omega⟩
    · exact Ok.expr h
  refine ⟨b, d, hok.inn hc h0, ?_⟩
  rw [← lay_inn hc h0]
  exact ⟨[], [], by simp [lay, stripP], rfl⟩
theorem strip_tr {l : List Nd} (hc : (chkP l).2 = 0) (ht : topK l = true) : Fine (stripP l) 0 ∧ en (stripP l) 0 = (stripP l).length ∧ (∀ q, q < (stripP l).length → ∃ m, Stay l (stripP l) m q) ∧ ∀ q, 0 < q → q < (stripP l).length → (nd (stripP l) q).kind = 48 ∨ (nd (stripP l) q).kind = 50 → Mk (stripP l) := by
  have h0 := (chk_fine hc).1
  obtain ⟨a, b, c⟩ := stay_tree hc _ _ _ (Nat.le_refl _) (stay_root hc ht)
  rw [← lay_inn hc h0] at b c
  have e : lay l 0 0 = stripP l := rfl
  rw [e, Nat.zero_add] at b c
  exact ⟨a, b, fun q hq => (c q (Nat.zero_le _) hq).1, fun q h1 h2 => (c q (Nat.zero_le _) h2).2 h1⟩
theorem chk_mk {l : List Nd} (h : Fine l 0) (he : en l 0 = l.length) : chkP l = (-1, 0) := by
  have h0 := h.1
  simp only [chkP]
  rw [if_neg (by omega)]
  simp only [outP]
  rw [if_pos h.2, if_neg (by show ¬ en l 0 < l.length; omega)]
theorem strip_chk {l : List Nd} (hc : (chkP l).2 = 0) (ht : topK l = true) : chkP (stripP l) = (-1, 0) := by
  obtain ⟨a, b, _⟩ := strip_tr hc ht
  exact chk_mk a b
theorem strip_top {l : List Nd} (hc : (chkP l).2 = 0) (ht : topK l = true) : topK (stripP l) = true := by
  have h0 := (chk_fine hc).1
  have hs : Seg (stripP l) 0 (lay l 0 0) := ⟨[], [], by simp [lay, stripP], rfl⟩
  have hkf := kf_of hc h0 hs
  rw [topK_iff] at ht ⊢
  rcases ht with h | h
  · exact .inl ((hkf.s (by rw [h]; rfl) (by omega) (by omega)).1.trans h)
  · exact .inr (hkf.e h).1
set_option maxRecDepth 100000 in
theorem tab_le {k : Int} {r : RowV} (h : tabT k = some r) : k ≤ 87 := by
  have hA : (tabTL ++ tabEL ++ tabSL).all (fun kr => decide (kr.1 ≤ 87)) = true := by decide
  have : (k, r) ∈ tabTL ++ tabEL ++ tabSL := by
    simp only [tabT] at h
    split at h
    · rename_i r' hr
      cases h
      simp [lookup_pair hr]
    · simp only [tabE] at h
      split at h
      · rename_i r' hr
        cases h
        simp [lookup_pair hr]
      · simp only [tabS] at h
        split at h
        · rename_i r' hr
          cases h
          simp [lookup_pair hr]
        · cases h
  simpa using List.all_eq_true.1 hA _ this
theorem Stay.kinds {l S : List Nd} (hc : (chkP l).2 = 0) {m q : Nat} (h : Stay l S m q) : (nd S q).kind < 80 ∧ (nd S q).kind ≠ 33 ∧ (nd S q).kind ≠ 34 ∧ (nd S q).kind ≠ 51 ∧ (nd S q).kind ≠ 52 ∧ (nd S q).kind ≠ 67 := by
  have hkf := kf_of hc h.lt h.seg
  cases ht : typeK (nd l m).kind with
  | true => have := (hkf.t ht).1; omega
  | false =>
    have h1 := (hkf.s ht (fun e => h.nas (.inl e)) (fun e => h.nas (.inr e))).1
    obtain ⟨r, hr, _⟩ := fit_parts (chk_all hc h.lt).fit
    have h2 := tab_le hr
    have h3 : ¬ (80 ≤ (nd l m).kind ∧ (nd l m).kind ≤ 87 ∧ (nd l m).kind ≠ 85) := fun h => by rw [typeK_iff.2 h] at ht; cases ht
    have := h.ok.k51
    have := h.ok.k52
    have := h.ok.k67
    have := h.ok.k85
    have := h.nas
    omega
/-- A node that Strip leaves as it is, its kids too. -/
structure Simple (l : List Nd) (n : Nat) : Prop where
  nas : ¬ ((nd l n).kind = 33 ∨ (nd l n).kind = 34)
  ty : typeK (nd l n).kind = false
  k44 : (nd l n).kind = 44 → (nd l n).num = 0
  k66 : (nd l n).kind = 66 → (nd l n).num = if markP (nd l n).num = true then 2 else 0
  kids : ∀ k ∈ (nd l n).kids, leftP (ruleF (nd l n).kind) l k.toNat = false
theorem Simple.alone {l : List Nd} {n : Nat} (h : Simple l n) : ({ aloneN (nd l n) with kids := (nd l n).kids } : Nd) = nd l n := by
  have h1 := h.ty
  have h2 := h.k44
  have h3 := h.k66
  revert h1 h2 h3
  generalize nd l n = x
  obtain ⟨k, t, nm, ks, a⟩ := x
  intro h1 h2 h3
  simp only at h1 h2 h3 ⊢
  unfold aloneN
  rw [if_neg (by simp [h1])]
  by_cases h44 : k = 44
  · rw [if_pos h44]
    simp [h44, h2 h44]
  · rw [if_neg h44]
    by_cases h66 : k = 66
    · rw [if_pos h66]
      have := h3 h66
      simp only [Nd.mk.injEq, true_and, and_true]
      exact ⟨h66.symm, this.symm⟩
    · rw [if_neg h66]
theorem layK_fix {l : List Nd} : ∀ (ks : List Int) (next e : Nat), Chain l ks next e → e ≤ l.length → (∀ q, next ≤ q → q < l.length → (q : Int) ∈ ks → lay l q q = str l q (en l q)) → layK (lay l) ks next = (ks, str l next e)
  | [], next, e, h, _, _ => by rw [show e = next from h]; simp [layK, str]
  | k :: ks, next, e, h, he, hq => by
    obtain ⟨h1, h2, h3⟩ := h
    have hle := h2.le
    have hce := chain_le ks _ e h3
    have e0 := hq next (Nat.le_refl _) h2.1 (by simp [h1])
    simp only [layK]
    rw [h1, Int.toNat_natCast, e0, str_len (by omega), show next + (en l next - next) = en l next from by omega,
      layK_fix ks _ e h3 he (fun q a b c => hq q (by omega) b (by simp [c])), str_append (by omega) hce he]
theorem str_cons {l : List Nd} {n e : Nat} (hn : n < e) (he : e ≤ l.length) : str l n e = nd l n :: str l (n + 1) e := by
  have hnl : n < l.length := by omega
  simp only [str]
  rw [List.drop_eq_getElem_cons hnl, show e - n = (e - (n + 1)) + 1 from by omega, List.take_succ_cons]
  simp [nd, List.getD_eq_getElem?_getD, List.getElem?_eq_getElem hnl]
theorem lay_fix {l : List Nd} (hc : (chkP l).2 = 0) (hs : ∀ n, n < l.length → Simple l n) : ∀ (d n : Nat), en l n - n ≤ d → n < l.length → lay l n n = str l n (en l n)
  | 0, n, hd, hn => by have := (chk_all hc hn).le; omega
  | d + 1, n, hd, hn => by
    have hf := chk_all hc hn
    have hle := hf.le
    have hsn := hs n hn
    have hkp : kp l n = (nd l n).kids := by
      unfold kp
      rw [List.filter_eq_self]
      intro k hk
      simp [hsn.kids k hk]
    rw [lay_eq hc hn, inn_stop hsn.nas, hkp, layK_fix _ _ _ hf.chain hle.2 (fun q a b c => ?_)]
    · rw [str_cons (n := n) (by omega) hle.2]
      simp only
      rw [hsn.alone]
    · obtain ⟨q', e1, e2, e3, e4⟩ := chain_kids _ _ _ hf.chain _ c
      obtain rfl : q' = q := by omega
      exact lay_fix hc hs d q' (by omega) b
theorem strip_fix {l : List Nd} (hc : (chkP l).2 = 0) (hs : ∀ n, n < l.length → Simple l n) : stripP l = l := by
  obtain ⟨a, b, c⟩ := chk_fine hc
  have := lay_fix hc hs _ 0 (Nat.le_refl _) a
  rw [c, str_all] at this
  exact this
theorem Stay.field {l S : List Nd} (hc : (chkP l).2 = 0) {m q : Nat} (h : Stay l S m q) (h44 : (nd l m).kind = 44) : noneK S q 1 = false := by
  obtain ⟨hp, hkids, hsub⟩ := h.at hc
  have hfit := (chk_all hc h.lt).fit
  have hz := fit_kz hfit (by rw [h44]; rfl) rfl
  have h2 : 2 ≤ (nd l m).kids.length := kz_len2 hz
  rw [kp46 (by rw [h44]; rfl)] at hkids hsub
  obtain ⟨_, hn⟩ := lay_kids _ _ hsub
  obtain ⟨q1, e1, _, s1⟩ := hn 1 (by omega)
  have hm1 : (nd l m).kids.getD 1 0 ∈ (nd l m).kids := by rw [List.getD_eq_getElem?_getD, List.getElem?_eq_getElem (by omega)]; exact List.getElem_mem _
  have p1 : (isE (nd l ((nd l m).kids.getD 1 0).toNat).kind || (nd l ((nd l m).kids.getD 1 0).toNat).kind == 1) = true := kz_nth _ _ 1 128 hz rfl (by omega)
  have hno := h.ok.k44 h44
  have hno' : ((nd l ((nd l m).kids.getD 1 0).toNat).kind == 1) = false := hno
  rw [hno', Bool.or_false] at p1
  have := isE_iff.1 ((kf_of hc (ins_iff.1 (fit_ins hfit _ hm1)).2 s1).e p1).1
  simp only [noneK, kd, hkids, e1, Int.toNat_natCast, beq_eq_false_iff_ne]
  omega
theorem strip_simple {l : List Nd} (hc : (chkP l).2 = 0) (ht : topK l = true) (q : Nat) (hq : q < (stripP l).length) : Simple (stripP l) q := by
  obtain ⟨_, _, hst, _⟩ := strip_tr hc ht
  have hfin := chk_all (by rw [strip_chk hc ht] : (chkP (stripP l)).2 = 0) hq
  have K : ∀ q', q' < (stripP l).length → (nd (stripP l) q').kind < 80 ∧ (nd (stripP l) q').kind ≠ 33 ∧ (nd (stripP l) q').kind ≠ 34 ∧ (nd (stripP l) q').kind ≠ 51 ∧ (nd (stripP l) q').kind ≠ 52 ∧ (nd (stripP l) q').kind ≠ 67 := fun q' h => by
    obtain ⟨m', h'⟩ := hst q' h
    exact h'.kinds hc
  obtain ⟨m, hm⟩ := hst q hq
  have hk := K q hq
  have hty : typeK (nd (stripP l) q).kind = false := by
    cases e : typeK (nd (stripP l) q).kind with
    | false => rfl
    | true => have := typeK_iff.1 e; omega
  have hkf := kf_of hc hm.lt hm.seg
  refine ⟨by omega, hty, fun h44 => ?_, fun h66 => ?_, fun k hk' => ?_⟩
  · cases ht' : typeK (nd l m).kind with
    | true => have := (hkf.t ht').1; omega
    | false =>
      obtain ⟨a, _, _, b, _⟩ := hkf.s ht' (fun e => hm.nas (.inl e)) (fun e => hm.nas (.inr e))
      exact b (by omega)
  · cases ht' : typeK (nd l m).kind with
    | true => have := (hkf.t ht').1; omega
    | false =>
      obtain ⟨a, _, _, _, b⟩ := hkf.s ht' (fun e => hm.nas (.inl e)) (fun e => hm.nas (.inr e))
      rw [b (by omega)]
      have m0 : markP 0 = false := by decide
      have m2 : markP 2 = true := by decide
      cases markP (nd l m).num <;> simp [m0, m2]
  · have hki := fit_ins hfin.fit k hk'
    have hkl := (ins_iff.1 hki).2
    have hkk := K _ hkl
    unfold leftP
    split
    · have h2 : expN (stripP l) k.toNat < (stripP l).length := by
        unfold expN
        split
        · cases hks : (nd (stripP l) k.toNat).kids with
          | nil => simp; omega
          | cons k' ks' =>
            have := fit_ins (chk_all (by rw [strip_chk hc ht] : (chkP (stripP l)).2 = 0) hkl).fit k' (by rw [hks]; simp)
            simpa using (ins_iff.1 this).2
        · exact hkl
      have := K _ h2
      simp only [forT, Bool.or_eq_false_iff, beq_eq_false_iff_ne]
      exact ⟨by omega, by omega⟩
    · split
      · have e1 : typeK (nd (stripP l) k.toNat).kind = false := by
          cases e : typeK (nd (stripP l) k.toNat).kind with
          | false => rfl
          | true => have := typeK_iff.1 e; omega
        have e2 : ((nd (stripP l) k.toNat).kind == 67) = false := beq_eq_false_iff_ne.2 (by omega)
        simp only [listT, e1, e2, Bool.false_or]
        by_cases h44 : (nd (stripP l) k.toNat).kind = 44
        · obtain ⟨m', hm'⟩ := hst _ hkl
          have hkf' := kf_of hc hm'.lt hm'.seg
          have : (nd l m').kind = 44 := by
            cases ht' : typeK (nd l m').kind with
            | true => have := (hkf'.t ht').1; omega
            | false => have := (hkf'.s ht' (fun e => hm'.nas (.inl e)) (fun e => hm'.nas (.inr e))).1; omega
          rw [hm'.field hc this, Bool.and_false]
        · rw [beq_eq_false_iff_ne.2 h44, Bool.false_and]
      · rename_i h1 h2
        have hr : ruleF (nd (stripP l) q).kind ≠ 45 := by
          unfold ruleF
          split
          · decide
          · split
            · decide
            · rw [if_neg (by simp [hty])]; decide
        exact beq_eq_false_iff_ne.2 hr
/-- Once more it is the same. -/
theorem strip_twice {l : List Nd} (hc : (chkP l).2 = 0) (ht : topK l = true) : stripP (stripP l) = stripP l :=
  strip_fix (by rw [strip_chk hc ht]) (strip_simple hc ht)
theorem ccP_ok {l : List Nd} (h : (ccP l).2 = 0) : (chkP l).2 = 0 ∧ ∀ j, j < l.length → plainP l j = true := by
  by_cases hc : (chkP l).2 = 0
  · refine ⟨hc, fun j hj => ?_⟩
    cases hf : (List.range l.length).find? (fun j => !plainP l j) with
    | none =>
      rw [List.find?_range_eq_none] at hf
      have := hf j hj
      simpa using this
    | some n => simp [ccP, hc, hf] at h
  · rw [ccP_bad hc] at h; exact absurd h hc
/-- A plain tree is its own Strip. -/
theorem strip_plain {l : List Nd} (h : (ccP l).2 = 0) : stripP l = l := by
  obtain ⟨hc, hp⟩ := ccP_ok h
  refine strip_fix hc fun n hn => ?_
  have hpn := hp n hn
  simp only [plainP, Bool.and_eq_true, Bool.not_eq_true'] at hpn
  have T : ∀ m, m < l.length → (nd l m).kind ≠ 33 ∧ (nd l m).kind ≠ 34 ∧ (nd l m).kind ≠ 50 ∧ (nd l m).kind ≠ 51 ∧ (nd l m).kind ≠ 52 ∧ (nd l m).kind ≠ 67 ∧ typeK (nd l m).kind = false := fun m hm => by
    have h1 := hp m hm
    simp only [plainP, Bool.and_eq_true, Bool.not_eq_true'] at h1
    have h2 := h1.1
    simp only [typedK, Bool.or_eq_false_iff, beq_eq_false_iff_ne] at h2
    exact ⟨by omega, by omega, by omega, by omega, by omega, by omega, h2.2⟩
  obtain ⟨t1, t2, t3, t4, t5, t6, t7⟩ := T n hn
  have B : ∀ m, m < l.length → bareP l m = true := fun m hm => by
    have h1 := hp m hm
    simp only [plainP, Bool.and_eq_true] at h1
    exact h1.2
  have B44 : ∀ m, m < l.length → (nd l m).kind = 44 → (nd l m).num = 0 ∧ noneK l m 1 = false := fun m hm h44 => by
    have := B m hm
    simp only [bareP, h44] at this
    simp at this
    exact ⟨this.1.2, this.2⟩
  refine ⟨by omega, t7, fun h44 => (B44 n hn h44).1, fun h66 => ?_, fun k hk => ?_⟩
  · have := B n hn
    simp only [bareP, h66] at this
    simp at this
    rw [this.2]
    decide
  · have hkl := (ins_iff.1 (fit_ins (chk_all hc hn).fit k hk)).2
    obtain ⟨u1, u2, u3, u4, u5, u6, u7⟩ := T _ hkl
    unfold leftP
    split
    · rw [forT_kind u3, beq_eq_false_iff_ne.2 u4, beq_eq_false_iff_ne.2 u5]; rfl
    · split
      · simp only [listT, u7, beq_eq_false_iff_ne.2 u6, Bool.false_or]
        by_cases h44 : (nd l k.toNat).kind = 44
        · rw [(B44 _ hkl h44).2, Bool.and_false]
        · rw [beq_eq_false_iff_ne.2 h44, Bool.false_and]
      · have hr : ruleF (nd l n).kind ≠ 45 := by
          unfold ruleF
          split
          · decide
          · split
            · decide
            · rw [if_neg (by simp [t7])]; decide
        exact beq_eq_false_iff_ne.2 hr
/-- What makes something. -/
def makeN (x : Nd) : Bool := x.kind == 47 || x.kind == 49 || (x.kind == 66 && x.num != 0)
def makesP (l : List Nd) : Bool := l.any makeN
theorem makes_iff {l : List Nd} : makesP l = true ↔ ∃ q, q < l.length ∧ makeN (nd l q) = true := by
  simp only [makesP, List.any_eq_true]
  constructor
  · rintro ⟨x, hx, h⟩
    obtain ⟨q, hq, rfl⟩ := List.getElem_of_mem hx
    exact ⟨q, hq, by simpa [nd, List.getD_eq_getElem?_getD, List.getElem?_eq_getElem hq] using h⟩
  · rintro ⟨q, hq, h⟩
    exact ⟨l[q], List.getElem_mem hq, by simpa [nd, List.getD_eq_getElem?_getD, List.getElem?_eq_getElem hq] using h⟩
theorem Stay.kidAt {l S : List Nd} (hc : (chkP l).2 = 0) {m q : Nat} (h : Stay l S m q) (hr : ruleF (nd l m).kind = 46) (j g : Nat) (r : RowV) (ht : tabT (nd l m).kind = some r) (hm : r.m = none) (hg : [r.k0, r.k1, r.k2, r.k3][j]? = some (some g)) (hj : j < (nd l m).kids.length) : ∃ n q1 : Nat, n < l.length ∧ plOf g l n = true ∧ ((nd S q).kids.getD j 0).toNat = q1 ∧ Seg S q1 (lay l n q1) := by
  obtain ⟨hp, hkids, hsub⟩ := h.at hc
  have hfit := (chk_all hc h.lt).fit
  have hz := fit_kz hfit ht hm
  rw [kp46 hr] at hkids hsub
  obtain ⟨_, hn⟩ := lay_kids _ _ hsub
  obtain ⟨q1, e1, _, s1⟩ := hn j hj
  have hm1 : (nd l m).kids.getD j 0 ∈ (nd l m).kids := by rw [List.getD_eq_getElem?_getD, List.getElem?_eq_getElem hj]; exact List.getElem_mem _
  exact ⟨_, q1, (ins_iff.1 (fit_ins hfit _ hm1)).2, kz_nth _ _ j g hz hg hj, by rw [hkids, e1]; rfl, s1⟩
theorem Stay.empty {l S : List Nd} (hc : (chkP l).2 = 0) {m q : Nat} (h : Stay l S m q) (hr : ruleF (nd l m).kind = 46) (j g : Nat) (r : RowV) (ht : tabT (nd l m).kind = some r) (hm : r.m = none) (hg : [r.k0, r.k1, r.k2, r.k3][j]? = some (some g)) (hj : j < (nd l m).kids.length) (hgb : g ∈ bF) (hge : g = 62 ∨ g = 95 ∨ g = 125) : emptyK S q j = true := by
  obtain ⟨n, q1, a, b, c, d⟩ := h.kidAt hc hr j g r ht hm hg hj
  have := (bpl_keep hc hgb a b d).2 hge
  simp only [emptyK, kd, c, this]
  rfl
theorem Stay.none' {l S : List Nd} (hc : (chkP l).2 = 0) {m q : Nat} (h : Stay l S m q) (hr : ruleF (nd l m).kind = 46) (j : Nat) (r : RowV) (ht : tabT (nd l m).kind = some r) (hm : r.m = none) (hg : [r.k0, r.k1, r.k2, r.k3][j]? = some (some 123)) (hj : j < (nd l m).kids.length) : noneK S q j = true := by
  obtain ⟨n, q1, a, b, c, d⟩ := h.kidAt hc hr j 123 r ht hm hg hj
  have b' : (isT (nd l n).kind || (nd l n).kind == 1) = true := b
  have hkf := kf_of hc a d
  have : (nd S q1).kind = 1 := by
    rw [Bool.or_eq_true, beq_iff_eq, isT_typeK] at b'
    rcases b' with b' | b'
    · exact (hkf.t b').1
    · exact ((hkf.s (by rw [b']; rfl) (by omega) (by omega)).1).trans b'
  simp only [noneK, kd, c, this]
  rfl
theorem strip_bare {l : List Nd} (hc : (chkP l).2 = 0) (ht : topK l = true) (q : Nat) (hq : q < (stripP l).length) (hn : (nd (stripP l) q).kind = 66 → (nd (stripP l) q).num = 0) : bareP (stripP l) q = true := by
  obtain ⟨_, _, hst, _⟩ := strip_tr hc ht
  obtain ⟨m, hm⟩ := hst q hq
  have hkf := kf_of hc hm.lt hm.seg
  have hfit := (chk_all hc hm.lt).fit
  have hsi := strip_simple hc ht q hq
  have E : ∀ {c : Int}, c ≠ 1 → (nd (stripP l) q).kind = c → (nd l m).kind = c := fun h1 h => by
    cases ht' : typeK (nd l m).kind with
    | true => have := (hkf.t ht').1; omega
    | false => have := (hkf.s ht' (fun e => hm.nas (.inl e)) (fun e => hm.nas (.inr e))).1; omega
  have hne := kid_need hfit
  unfold bareP
  split
  · rename_i h
    rcases h with h | h
    · have e := E (by decide) h
      rw [e] at hne
      exact hm.empty hc (by rw [e]; rfl) 0 95 _ (by rw [e]; rfl) rfl rfl hne (by decide) (by decide)
    · have e := E (by decide) h
      rw [e] at hne
      exact hm.empty hc (by rw [e]; rfl) 0 62 _ (by rw [e]; rfl) rfl rfl hne (by decide) (by decide)
  split
  · rename_i h
    have e : (nd l m).kind = 41 ∨ (nd l m).kind = 45 := by
      rcases h with h | h
      · exact .inl (E (by decide) h)
      · exact .inr (E (by decide) h)
    rw [Bool.and_eq_true]
    rcases e with e | e
    · rw [e] at hne
      have hne' : 3 ≤ (nd l m).kids.length := hne
      exact ⟨hm.empty hc (by rw [e]; rfl) 0 95 _ (by rw [e]; rfl) rfl rfl (by omega) (by decide) (by decide), hm.none' hc (by rw [e]; rfl) 2 _ (by rw [e]; rfl) rfl rfl (by omega)⟩
    · rw [e] at hne
      have hne' : 3 ≤ (nd l m).kids.length := hne
      exact ⟨hm.empty hc (by rw [e]; rfl) 0 95 _ (by rw [e]; rfl) rfl rfl (by omega) (by decide) (by decide), hm.none' hc (by rw [e]; rfl) 2 _ (by rw [e]; rfl) rfl rfl (by omega)⟩
  split
  · rename_i h
    have e := E (by decide) h
    rw [e] at hne
    have hne' : 3 ≤ (nd l m).kids.length := hne
    rw [Bool.and_eq_true]
    exact ⟨hm.empty hc (by rw [e]; rfl) 0 95 _ (by rw [e]; rfl) rfl rfl (by omega) (by decide) (by decide), hm.empty hc (by rw [e]; rfl) 2 125 _ (by rw [e]; rfl) rfl rfl (by omega) (by decide) (by decide)⟩
  split
  · rename_i h
    rcases h with h | h
    · have e := E (by decide) h
      rw [e] at hne
      exact hm.empty hc (by rw [e]; rfl) 1 62 _ (by rw [e]; rfl) rfl rfl hne (by decide) (by decide)
    · have e := E (by decide) h
      rw [e] at hne
      exact hm.empty hc (by rw [e]; rfl) 1 62 _ (by rw [e]; rfl) rfl rfl hne (by decide) (by decide)
  split
  · rename_i h
    have e := E (by decide) h
    rw [e] at hne
    exact hm.none' hc (by rw [e]; rfl) 0 _ (by rw [e]; rfl) rfl rfl hne
  split
  · rename_i h
    have e := E (by decide) h
    rw [e] at hne
    rw [Bool.and_eq_true, beq_iff_eq]
    exact ⟨hm.none' hc (by rw [e]; rfl) 0 _ (by rw [e]; rfl) rfl rfl hne, hn h⟩
  split
  · rename_i h
    have e := E (by decide) h
    rw [e] at hne
    have hne' : 2 ≤ (nd l m).kids.length := hne
    rw [Bool.and_eq_true, Bool.and_eq_true, beq_iff_eq]
    exact ⟨⟨hm.none' hc (by rw [e]; rfl) 0 _ (by rw [e]; rfl) rfl rfl (by omega), hsi.k44 h⟩, by rw [hm.field hc e]; rfl⟩
  · rfl
/-- But for what makes something it is plain. -/
theorem strip_core {l : List Nd} (hc : (chkP l).2 = 0) (ht : topK l = true) : (ccP (stripP l)).2 = if makesP (stripP l) = true then 12 else 0 := by
  have hS := strip_chk hc ht
  obtain ⟨_, _, hst, hpar⟩ := strip_tr hc ht
  by_cases hm : makesP (stripP l) = true
  · rw [if_pos hm]
    obtain ⟨q, hq, hmk⟩ := makes_iff.1 hm
    have hnp : plainP (stripP l) q = false := by
      simp only [makeN, Bool.or_eq_true, Bool.and_eq_true, beq_iff_eq, bne_iff_ne] at hmk
      rcases hmk with (h | h) | ⟨h, h'⟩
      · simp [plainP, typedK, h]
      · simp [plainP, typedK, h]
      · simp [plainP, bareP, h, h']
    cases hf : (List.range (stripP l).length).find? (fun j => !plainP (stripP l) j) with
    | none =>
      rw [List.find?_range_eq_none] at hf
      have := hf q hq
      rw [hnp] at this
      simp at this
    | some n => simp [ccP, hS, hf]
  · rw [if_neg hm]
    have hno : ∀ q, q < (stripP l).length → makeN (nd (stripP l) q) = false := fun q hq => by
      cases e : makeN (nd (stripP l) q) with
      | false => rfl
      | true => exact absurd (makes_iff.2 ⟨q, hq, e⟩) hm
    have hnoM : ¬ Mk (stripP l) := fun ⟨q, hq, h⟩ => by
      have := hno q hq
      simp only [makeN, Bool.or_eq_false_iff, beq_eq_false_iff_ne] at this
      omega
    rw [ccP_all (by rw [hS]) fun q hq => ?_]
    have hk := (hst q hq).elim fun m h => h.kinds hc
    have hmk := hno q hq
    simp only [makeN, Bool.or_eq_false_iff, beq_eq_false_iff_ne, Bool.and_eq_false_iff, bne_eq_false_iff_eq] at hmk
    have h4850 : ¬ ((nd (stripP l) q).kind = 48 ∨ (nd (stripP l) q).kind = 50) := fun h => by
      by_cases h0 : 0 < q
      · exact hnoM (hpar q h0 hq h)
      · obtain rfl : q = 0 := by omega
        rcases topK_iff.1 (strip_top hc ht) with h' | h'
        · omega
        · have := isE_iff.1 h'; omega
    simp only [plainP, Bool.and_eq_true, Bool.not_eq_true']
    refine ⟨?_, strip_bare hc ht q hq fun h => by rcases hmk.2 with h' | h' <;> first | exact absurd h h' | exact h'⟩
    have hty : typeK (nd (stripP l) q).kind = false := (strip_simple hc ht q hq).ty
    simp only [typedK, Bool.or_eq_false_iff, beq_eq_false_iff_ne]
    refine ⟨⟨⟨⟨⟨⟨⟨⟨⟨⟨?_, ?_⟩, ?_⟩, ?_⟩, ?_⟩, ?_⟩, ?_⟩, ?_⟩, ?_⟩, ?_⟩, hty⟩ <;> omega
end Go.Proofs.YtnnpkomedpjlcaaGreatDoor

/- The law CoreTwice, walked. -/
namespace Go.Proofs.YtnnpkomedpjlcaaGreatDoor
set_option linter.unusedSimpArgs false
set_option linter.unusedVariables false
open Go.RowKit Go.Shelf

/-- Trees whose nodes are small. -/
def Smal (L : List Nd) : Prop := L.length ≤ 3000 ∧ ∀ x ∈ L, x.text.size ≤ 3000 ∧ x.kids.length ≤ 3000
theorem Smal.of {l : List Nd} (h : szN l l.length ≤ 3000) : Smal l := by
  refine ⟨Nat.le_trans (szN_len l l.length) h, fun x hx => ?_⟩
  obtain ⟨j, hj⟩ := List.getElem?_of_mem hx
  have hjl := (List.getElem?_eq_some_iff.1 hj).1
  have h1 := szN_at l hjl
  have h2 : nd l j = x := by simp [nd, List.getD_eq_getElem?_getD, hj]
  rw [h2] at h1
  omega
theorem OwnN.nodesS {W : World} {B : Nat} {v : Value} {es : List NE} (h : OwnN W B v es) {L : List Nd} (he : es.map NE.x = L) (hs : Smal L) : Nodes W W.heap.size v L := by
  subst he
  have h1 := hs.1
  simp only [List.length_map] at h1
  refine h.nodes (by omega) fun e he => ?_
  have := hs.2 e.x (List.mem_map_of_mem he)
  omega
/-- A box behind all that lies. -/
theorem box_cell {w w' : World} {u : Value} {t : TypeId} {N : Nat} (hN : (w.alloc (.cells #[u] t)).heap.size ≤ N) (h : Below N (w.alloc (.cells #[u] t)) w') : w'.cell? ⟨w.heap.size, 0, none⟩ = some u := by
  have h1 : (w.alloc (.cells #[u] t)).heap[w.heap.size]? = some (.cells #[u] t) := World.alloc_heap_new w _
  have h2 : w.heap.size < N := by simp at hN; omega
  rw [Lib.cell_of_heap ((h.block _ h2).trans h1)]; rfl

theorem nodeEq_refl (x : Nd) : nodeEq x x = true := by simp [nodeEq]
theorem sameT_refl : ∀ l : List Nd, sameT l l = true
  | [] => rfl
  | x :: l => by simp [sameT, nodeEq_refl, sameT_refl l]
theorem strip_smal {l : List Nd} (hc : (chkP l).2 = 0) (ht : topK l = true) (hs : Smal l) : Smal (stripP l) := by
  have hl : (stripP l).length ≤ l.length := by
    have := layF_len hc l.length 0 0 (chk_fine hc).1
    rw [(chk_fine hc).2.2] at this
    exact this
  refine ⟨by have := hs.1; omega, fun x hx => ?_⟩
  obtain ⟨q, hq, rfl⟩ := List.getElem_of_mem hx
  obtain ⟨_, _, hst, _⟩ := strip_tr hc ht
  obtain ⟨m, hm⟩ := hst q hq
  have e : (stripP l)[q] = nd (stripP l) q := by simp [nd, List.getD_eq_getElem?_getD, List.getElem?_eq_getElem hq]
  rw [e]
  have hmem : nd l m ∈ l := by
    have : nd l m = l[m]'hm.lt := by simp [nd, List.getD_eq_getElem?_getD, List.getElem?_eq_getElem hm.lt]
    rw [this]; exact List.getElem_mem _
  obtain ⟨s1, s2⟩ := hs.2 _ hmem
  have hkf := kf_of hc hm.lt hm.seg
  obtain ⟨_, hkids, hsub⟩ := hm.at hc
  refine ⟨?_, ?_⟩
  · cases ht' : typeK (nd l m).kind with
    | true => rw [(hkf.t ht').2.1]; decide
    | false => rw [(hkf.s ht' (fun e => hm.nas (.inl e)) (fun e => hm.nas (.inr e))).2.1]; exact s1
  · rw [hkids, (lay_kids _ _ hsub).1]
    have : (kp l m).length ≤ (nd l m).kids.length := List.length_filter_le _ _
    omega
/-- Does one of the first so many make something? -/
def makesU (l : List Nd) (i : Nat) : Bool := (l.take i).any makeN
theorem makesU_succ {l : List Nd} {i : Nat} (hi : i < l.length) : makesU l (i + 1) = (makesU l i || makeN (nd l i)) := by
  simp only [makesU]
  rw [List.take_add_one, List.any_append]
  simp [List.getElem?_eq_getElem hi, nd, List.getD_eq_getElem?_getD]
theorem makesU_all (l : List Nd) : makesU l l.length = makesP l := by simp [makesU, makesP]

/-- A tree that Strip made, in a box behind it. -/
theorem box3 {B : Nat} {w1 w2 W3 : World} {v' : Value} {es : List NE} {S : List Nd} (hs : Smal S) (hmap : es.map NE.x = S) (hO : OwnN w2 B v' es) (hb : Below w1.heap.size w1 w2) (hW : w2.alloc (.cells #[v'] 24) = W3) (w' : World) (h : Below W3.heap.size W3 w') :
    Below w1.heap.size w1 w' ∧ w'.cell? ⟨w2.heap.size, 0, none⟩ = some v' ∧ w2.heap.size < w'.heap.size ∧ Nodes w' w'.heap.size v' S := by
  have hz : W3.heap.size = w2.heap.size + 1 := by rw [← hW]; simp
  have h2 : Below w2.heap.size w2 W3 := by rw [← hW]; exact (Below.refl _ w2).alloc (Nat.le_refl _) _
  have h2w : Below w2.heap.size w2 w' := h2.trans (h.mono (by omega))
  have hsz := h.size
  refine ⟨hb.trans (h2w.mono hb.size), ?_, by omega, ?_⟩
  · subst hW; exact box_cell (Nat.le_refl _) h
  · exact ((hO.nodesS hmap hs).keep h2w (Nat.le_refl _)).mono (by omega)

set_option maxRecDepth 100000 in
set_option maxHeartbeats 8000000 in
theorem twice_no (W : World) (M : Nat) (v : Value) (l : List Nd) (hN : NodesR W M v l) (hM : M ≤ W.heap.size) (hal : szN l l.length ≤ 3000) (hno : ¬ ((chkP l).2 = 0 ∧ topK l = true)) :
    Calls Tryz.prog 5 #[.agg #[v]] W fun e w' => e = .returned (.bool true) ∧ Below W.heap.size W w' := by
  obtain ⟨W1, hW1⟩ : ∃ W1, W.alloc (.cells #[v] 24) = W1 := ⟨_, rfl⟩
  have hB1 : Below W.heap.size W W1 := by rw [← hW1]; exact (Below.refl _ W).alloc (Nat.le_refl _) _
  have hz1 : W1.heap.size = W.heap.size + 1 := by rw [← hW1]; simp
  have HBX : Hid (∀ w', Below W1.heap.size W1 w' → Below W.heap.size W w' ∧ w'.cell? ⟨W.heap.size, 0, none⟩ = some v ∧ W.heap.size < w'.heap.size) := fun w' h =>
    ⟨hB1.trans (h.mono (by omega)), by subst hW1; exact box_cell (Nat.le_refl _) h, by have := h.size; omega⟩
  have HG := hide (great_reach W1 M v l (hN.keep hB1 hM) (Nat.le_trans hM hB1.size))
  have ha : decide (3000 < szN l l.length) = false := by simpa using hal
  rw [ha] at HG
  have hNn := hN.nodes hal
  obtain ⟨c, hc0, HS⟩ : ∃ c : Int, c ≠ 0 ∧ Hid (∀ w', Below W1.heap.size W1 w' → Calls Tryz.prog 12 #[.agg #[v]] w' (StripNo c w')) := by
    by_cases hc : (chkP l).2 = 0
    · have ht : topK l = false := by
        cases h : topK l with
        | false => rfl
        | true => exact absurd ⟨hc, h⟩ hno
      refine ⟨7, by decide, fun w' h => ?_⟩
      have h1 := (unhide HBX w' h).1
      exact strip_no w' M v l (hNn.keep h1 hM) (Nat.le_trans hM h1.size) hc ht
    · refine ⟨(chkP l).2, hc, fun w' h => ?_⟩
      have h1 := (unhide HBX w' h).1
      exact strip_bad w' M v l (hNn.keep h1 hM) (Nat.le_trans hM h1.size) hc
  obtain ⟨a, cap, rfl, _, _⟩ := hN.len
  have hc0' : (c != 0) = true := by simpa using hc0
  have HW1 := hide hW1
  clear ha hN hNn hB1 hW1 hz1 hno hc0
  go_enter Tryz.func5, Tryz.ntmps5
  go_wp2_with (first
    | (go_at_call 6
       rw [unhide HW1]
       refine (unhide HG).mono ?_
       rintro e w1 ⟨rfl, hB1⟩
       have x1 := (unhide HBX w1 hB1).2.1
       have x2 := (unhide HBX w1 hB1).2.2
       have HB1 := hide hB1
       clear hB1)
    | (go_at_call 12
       refine (unhide HS w1 (unhide HB1)).mono ?_
       rintro e w2 ⟨rfl, hB2⟩
       have HB2 := hide ((unhide HB1).trans (hB2.mono (unhide HB1).size))
       clear hB2 x1 x2)
    | (go_at_call 11
       refine (known5_any _).mono ?_
       rintro e w7 ⟨rfl, hb7⟩))
  go_ret
  refine ⟨rfl, ?_⟩
  have h1 := (unhide HBX _ (unhide HB2)).1
  exact (h1.alloc h1.size _).trans (hb7.mono (by have := h1.size; simp; omega))
end Go.Proofs.YtnnpkomedpjlcaaGreatDoor

/- The law CoreTwice, walked: trees that are stripped. -/
namespace Go.Proofs.YtnnpkomedpjlcaaGreatDoor
set_option linter.unusedSimpArgs false
set_option linter.unusedVariables false
open Go.RowKit Go.Shelf

/-- What is known of the boxes behind the third one. -/
def Bx (W w2 w4 W5 : World) (M : Nat) (v v' v'' : Value) (l S : List Nd) : Prop := ∀ w', Below W5.heap.size W5 w' → Below W.heap.size W w' ∧ w'.cell? ⟨W.heap.size, 0, none⟩ = some v ∧ W.heap.size < w'.heap.size ∧ w'.cell? ⟨w2.heap.size, 0, none⟩ = some v' ∧ w2.heap.size < w'.heap.size ∧ w'.cell? ⟨w4.heap.size, 0, none⟩ = some v'' ∧ w4.heap.size < w'.heap.size ∧ Nodes w' M v l ∧ Nodes w' w'.heap.size v' S ∧ Nodes w' w'.heap.size v'' S

set_option maxRecDepth 100000 in
set_option maxHeartbeats 8000000 in
theorem twice_yes (W : World) (M : Nat) (v : Value) (l : List Nd) (hN : NodesR W M v l) (hM : M ≤ W.heap.size) (hal : szN l l.length ≤ 3000) (hc : (chkP l).2 = 0) (ht : topK l = true) :
    Calls Tryz.prog 5 #[.agg #[v]] W fun e w' => e = .returned (.bool true) ∧ Below W.heap.size W w' := by
  obtain ⟨W1, hW1⟩ : ∃ W1, W.alloc (.cells #[v] 24) = W1 := ⟨_, rfl⟩
  have hB1 : Below W.heap.size W W1 := by rw [← hW1]; exact (Below.refl _ W).alloc (Nat.le_refl _) _
  have hz1 : W1.heap.size = W.heap.size + 1 := by rw [← hW1]; simp
  have HBX : Hid (∀ w', Below W1.heap.size W1 w' → Below W.heap.size W w' ∧ w'.cell? ⟨W.heap.size, 0, none⟩ = some v ∧ W.heap.size < w'.heap.size) := fun w' h =>
    ⟨hB1.trans (h.mono (by omega)), by subst hW1; exact box_cell (Nat.le_refl _) h, by have := h.size; omega⟩
  have HG := hide (great_reach W1 M v l (hN.keep hB1 hM) (Nat.le_trans hM hB1.size))
  have ha : decide (3000 < szN l l.length) = false := by simpa using hal
  rw [ha] at HG
  have hNn := hN.nodes hal
  have hs := Smal.of hal
  have hsS := strip_smal hc ht hs
  have hSc := strip_chk hc ht
  have hSt := strip_top hc ht
  have hSS := strip_twice hc ht
  have hcore := strip_core hc ht
  have hpl := strip_plain (l := l)
  have hki : ∀ q, q < (stripP l).length → (nd (stripP l) q).kind < 80 ∧ (nd (stripP l) q).kind ≠ 33 ∧ (nd (stripP l) q).kind ≠ 34 ∧ (nd (stripP l) q).kind ≠ 51 ∧ (nd (stripP l) q).kind ≠ 52 ∧ (nd (stripP l) q).kind ≠ 67 := fun q hq => by
    obtain ⟨_, _, hst, _⟩ := strip_tr hc ht
    obtain ⟨m, hm⟩ := hst q hq
    exact hm.kinds hc
  have HS1 : Hid (∀ w', Below W1.heap.size W1 w' → Calls Tryz.prog 12 #[.agg #[v]] w' fun e w'' => ∃ v' es, e = .returned (.tuple #[.agg #[v'], .int .i64 0]) ∧ es.map NE.x = stripP l ∧ OwnN w'' w'.heap.size v' es ∧ Below w'.heap.size w' w'') := fun w' h => by
    have h1 := (unhide HBX w' h).1
    exact strip_yes w' M v l (hNn.keep h1 hM) (Nat.le_trans hM h1.size) (by have := hs.1; omega) hc ht
  obtain ⟨S, hS⟩ : ∃ S, stripP l = S := ⟨_, rfl⟩
  rw [hS] at hsS hSc hSt hSS hcore hpl hki HS1
  have HS2 : Hid (∀ w' v', Nodes w' w'.heap.size v' S → Calls Tryz.prog 12 #[.agg #[v']] w' fun e w'' => ∃ v'' es, e = .returned (.tuple #[.agg #[v''], .int .i64 0]) ∧ es.map NE.x = S ∧ OwnN w'' w'.heap.size v'' es ∧ Below w'.heap.size w' w'') := fun w' v' h => by
    have := strip_yes w' w'.heap.size v' S h (Nat.le_refl _) (by have := hsS.1; omega) (by rw [hSc]) hSt
    rw [hSS] at this
    exact this
  have HSM : Hid (∀ w' u u' m, Nodes w' w'.heap.size u S → Nodes w' w'.heap.size u' m → m = S → Calls Tryz.prog 16 #[.agg #[u], .agg #[u']] w' fun e w'' => e = .returned (.bool true) ∧ Below w'.heap.size w' w'') := fun w' u u' m h1 h2 hm => by
    subst hm
    have := same_any w' w'.heap.size u u' m m h1 h2 (Nat.le_refl _)
    rw [sameT_refl] at this
    exact this
  have HTC : Hid (∀ w' u, Nodes w' w'.heap.size u S → Calls Tryz.prog 17 #[.agg #[u]] w' fun e w'' => e = .returned (.tuple #[.int .i64 (-1), .int .i64 0]) ∧ Below w'.heap.size w' w'') := fun w' u h => by
    have := check_ok w' w'.heap.size u S h (Nat.le_refl _)
    rw [hSc] at this
    exact this
  obtain ⟨d1, hd1⟩ : ∃ d1, (ccP l).1 = d1 := ⟨_, rfl⟩
  obtain ⟨d2, hd2⟩ : ∃ d2, (ccP l).2 = d2 := ⟨_, rfl⟩
  obtain ⟨f1, hf1⟩ : ∃ f1, (ccP S).1 = f1 := ⟨_, rfl⟩
  rw [hd2] at hpl
  have HCL : Hid (∀ w', Nodes w' M v l → M ≤ w'.heap.size → Calls Tryz.prog 8 #[.agg #[v]] w' fun e w'' => e = .returned (.tuple #[.int .i64 d1, .int .i64 d2]) ∧ Below w'.heap.size w' w'') := fun w' h1 h2 => by
    have := core_any w' M v l h1 h2
    rw [hd1, hd2] at this
    exact this
  obtain ⟨mk, hmk⟩ : ∃ mk, makesP S = mk := ⟨_, rfl⟩
  rw [hmk] at hcore
  have HCS : Hid (∀ w' u, Nodes w' w'.heap.size u S → Calls Tryz.prog 8 #[.agg #[u]] w' fun e w'' => e = .returned (.tuple #[.int .i64 f1, .int .i64 (if mk = true then 12 else 0)]) ∧ Below w'.heap.size w' w'') := fun w' u h => by
    have := core_any w' w'.heap.size u S h (Nat.le_refl _)
    rw [hf1, hcore] at this
    exact this
  have HB5 : Hid (∀ (w1 w2 W3 w4 W5 : World) (v' v'' : Value) (es es' : List NE), Below W1.heap.size W1 w1 → es.map NE.x = S → OwnN w2 w1.heap.size v' es → Below w1.heap.size w1 w2 → w2.alloc (.cells #[v'] 24) = W3 → es'.map NE.x = S → OwnN w4 W3.heap.size v'' es' → Below W3.heap.size W3 w4 → w4.alloc (.cells #[v''] 24) = W5 → Bx W w2 w4 W5 M v v' v'' l S) := fun w1 w2 W3 w4 W5 v' v'' es es' a1 a2 a3 a4 a5 a6 a7 a8 a9 w' h => by
    obtain ⟨q1, q2, q3, q4⟩ := box3 hsS a6 a7 a8 a9 w' h
    obtain ⟨r1, r2, r3, r4⟩ := box3 hsS a2 a3 a4 a5 w' q1
    obtain ⟨s1, s2, s3⟩ := unhide HBX w' (a1.trans (r1.mono a1.size))
    exact ⟨s1, s2, s3, r2, r3, q2, q3, hNn.keep s1 hM, r4, q4⟩
  have hSl := hsS.1
  have HKI := hide hki
  have HW1 := hide hW1
  have HSS := hide hsS
  have HMK := hide hmk
  obtain ⟨a, cap, rfl, _, _⟩ := hN.len
  have hMK : (if mk = true then (12 : Int) else 0) = if mk = true then 12 else 0 := rfl
  clear ha hN hNn hB1 hW1 hz1 hs hsS hSc hSt hSS hcore hki hd1 hd2 hf1 hmk hS hc ht
  have hd : (d2 == 0) = false ∨ ((d2 == 0) = true ∧ S = l) := by
    by_cases h : d2 = 0
    · exact .inr ⟨by simp [h], hpl h⟩
    · exact .inl (by simpa using h)
  clear hpl
  rcases hd with hd | ⟨hd, hSl'⟩
  ·
    go_enter Tryz.func5, Tryz.ntmps5
    go_wp2_with (first
      | (go_at_call 6
         rw [unhide HW1]
         refine (unhide HG).mono ?_
         rintro e w1 ⟨rfl, hB1⟩
         have x1 := (unhide HBX w1 hB1).2.1
         have x2 := (unhide HBX w1 hB1).2.2
         have HB1 := hide hB1
         clear hB1)
      | (go_at_call_of 12 l
         refine (unhide HS1 w1 (unhide HB1)).mono ?_
         rintro e w2 ⟨v', es, rfl, hmap, hown, hb2⟩
         obtain ⟨ga, gc, rfl, _, _⟩ := (hown.nodesS hmap (unhide HSS)).len
         obtain ⟨W3, hW3⟩ : ∃ W3, w2.alloc (.cells #[.slice ga S.length gc] 24) = W3 := ⟨_, rfl⟩
         have H3 := hide (box3 (unhide HSS) hmap hown hb2 hW3)
         have HMAP := hide hmap
         have HOWN := hide hown
         have HB2 := hide hb2
         have HW3 := hide hW3
         clear hmap hown hb2 hW3 x1 x2)
      | (go_at_call_of 12 S
         rw [unhide HW3]
         refine (unhide HS2 W3 _ (unhide H3 W3 (Below.refl _ _)).2.2.2).mono ?_
         rintro e w4 ⟨v'', es', rfl, hmap', hown', hb4⟩
         obtain ⟨gb, gd, rfl, _, _⟩ := (hown'.nodesS hmap' (unhide HSS)).len
         obtain ⟨W5, hW5⟩ : ∃ W5, w4.alloc (.cells #[.slice gb S.length gd] 24) = W5 := ⟨_, rfl⟩
         have HX := hide (unhide HB5 w1 w2 W3 w4 W5 _ _ es es' (unhide HB1) (unhide HMAP) (unhide HOWN) (unhide HB2) (unhide HW3) hmap' hown' hb4 hW5)
         have HW5 := hide hW5
         have y4 := (unhide H3 w4 hb4).2.1
         have y5 := (unhide H3 w4 hb4).2.2.1
         clear hmap' hown' hb4 hW5)
      | (fail_if_success (go_at_call_of 16 l)
         go_at_call 16
         rw [unhide HW5]
         refine (unhide HSM W5 _ _ S (unhide HX W5 (Below.refl _ _)).2.2.2.2.2.2.2.2.1 (unhide HX W5 (Below.refl _ _)).2.2.2.2.2.2.2.2.2 rfl).mono ?_
         rintro e w6 ⟨rfl, hB6⟩
         have z1 := (unhide HX w6 hB6).2.1
         have z2 := (unhide HX w6 hB6).2.2.1
         have HB6 := hide hB6
         clear hB6 y4 y5)
      | (go_at_call_of 8 l
         refine (unhide HCL w6 (unhide HX w6 (unhide HB6)).2.2.2.2.2.2.2.1 (Nat.le_trans hM (unhide HX w6 (unhide HB6)).1.size)).mono ?_
         rintro e w7 ⟨rfl, hB7⟩
         have hB57 := (unhide HB6).trans (hB7.mono (unhide HB6).size)
         have u1 := (unhide HX w7 hB57).2.1
         have u2 := (unhide HX w7 hB57).2.2.1
         have u3 := (unhide HX w7 hB57).2.2.2.1
         have u4 := (unhide HX w7 hB57).2.2.2.2.1
         have HB7 := hide hB57
         clear hB7 hB57 z1 z2)
      | (go_at_call 17
         refine (unhide HTC w7 _ (unhide HX w7 (unhide HB7)).2.2.2.2.2.2.2.2.1).mono ?_
         rintro e w9 ⟨rfl, hB9⟩
         have hB59 := (unhide HB7).trans (hB9.mono (unhide HB7).size)
         have HB9 := hide hB59
         clear hB9 hB59))
    go_loopw [11, 12, 13] (fun t11 t12 t13 wr => ∃ i : Nat, i ≤ S.length ∧ t12 = .int .i64 (i : Int) ∧ t11 = .bool (makesU S i) ∧ Below W5.heap.size W5 wr) (fun _ t12 _ _ => S.length - (intOf t12).toNat)
    case atStart => exact ⟨0, Nat.zero_le _, rfl, rfl, unhide HB9⟩
    case round =>
      obtain ⟨i, hi, rfl, rfl, hB⟩ := hrel
      obtain ⟨q1, q2, q3, q4, q5, q6, q7, q8, q9, q10⟩ := unhide HX wr hB
      by_cases hil : i < S.length
      · have hil' : (i : Int) < S.length := by omega
        obtain ⟨b, o, cap0, ka, kc, hv, _, _, hb, d0, _, d2', _, _, _, _, _⟩ := q9.at hil
        cases hv
        obtain ⟨n1, n2, n3, n4, n5, n6⟩ := unhide HKI i hil
        have hMU := makesU_succ hil
        have hbl : b < wr.heap.size := hb
        unfold makeN at hMU
        revert d0 d2' n1 n2 n3 n4 n5 n6 hMU
        generalize (nd S i).kind = k
        generalize (nd S i).num = nm
        generalize makesU S i = mu
        intro d0 d2' n1 n2 n3 n4 n5 n6 hMU
        have b1 : decide ((80 : Int) ≤ k) = false := decide_eq_false (by omega)
        have b1' : ¬ (80 : Int) ≤ k := by omega
        have b2 : (k == 33) = false := beq_eq_false_iff_ne.2 n2
        have b3 : (k == 34) = false := beq_eq_false_iff_ne.2 n3
        have b4 : (k == 51) = false := beq_eq_false_iff_ne.2 n4
        have b5 : (k == 52) = false := beq_eq_false_iff_ne.2 n5
        have b6 : (k == 67) = false := beq_eq_false_iff_ne.2 n6
        have HBr := hide hB
        clear q1 q2 q3 q6 q7 q8 q9 q10 n1 n2 n3 n4 n5 n6 hB
        cases mu with
        | true =>
          have HMU : Hid (makesU S (i + 1) = true) := hMU
          clear hMU
          go_wp2
          exact ⟨⟨i + 1, by omega, by go_num, by rw [unhide HMU], unhide HBr⟩, by simp [intOf]; omega⟩
        | false =>
          cases e47 : (k == 47) with
          | true =>
            have HMU : Hid (makesU S (i + 1) = true) := by show _ = _; rw [hMU, e47]; rfl
            clear hMU
            go_wp2
            exact ⟨⟨i + 1, by omega, by go_num, by rw [unhide HMU], unhide HBr⟩, by simp [intOf]; omega⟩
          | false =>
            cases e49 : (k == 49) with
            | true =>
              have HMU : Hid (makesU S (i + 1) = true) := by show _ = _; rw [hMU, e47, e49]; rfl
              clear hMU
              go_wp2
              exact ⟨⟨i + 1, by omega, by go_num, by rw [unhide HMU], unhide HBr⟩, by simp [intOf]; omega⟩
            | false =>
              cases e66 : (k == 66) with
              | true =>
                cases enm : (nm != 0) with
                | true =>
                  have HMU : Hid (makesU S (i + 1) = true) := by show _ = _; rw [hMU, e47, e49, e66, enm]; rfl
                  clear hMU
                  go_wp2
                  exact ⟨⟨i + 1, by omega, by go_num, by rw [unhide HMU], unhide HBr⟩, by simp [intOf]; omega⟩
                | false =>
                  have HMU : Hid (makesU S (i + 1) = false) := by show _ = _; rw [hMU, e47, e49, e66, enm]; rfl
                  clear hMU
                  go_wp2
                  exact ⟨⟨i + 1, by omega, by go_num, by rw [unhide HMU], unhide HBr⟩, by simp [intOf]; omega⟩
              | false =>
                have HMU : Hid (makesU S (i + 1) = false) := by show _ = _; rw [hMU, e47, e49, e66]; rfl
                clear hMU
                go_wp2
                exact ⟨⟨i + 1, by omega, by go_num, by rw [unhide HMU], unhide HBr⟩, by simp [intOf]; omega⟩
      · have hil' : ¬ (i : Int) < S.length := by omega
        obtain rfl : i = S.length := by omega
        have HQ9 := hide q9
        have HBr := hide hB
        have hmu : makesU S S.length = mk := (makesU_all S).trans (unhide HMK)
        rw [hmu]
        clear q1 q2 q3 q6 q7 q8 q9 q10 hB hmu
        cases mk with
        | true =>
          go_wp2_with (first
            | (go_at_call 8
               refine (unhide HCS wr _ (unhide HQ9)).mono ?_
               rintro e wa ⟨rfl, hBa⟩
               have HBa := hide ((unhide HBr).trans (hBa.mono (unhide HBr).size))
               clear hBa)
            | (go_at_call 11
               refine (known5_any _).mono ?_
               rintro e wz ⟨rfl, hbz⟩))
          go_ret
          exact ⟨rfl, (unhide HX wz ((unhide HBa).trans (hbz.mono (unhide HBa).size))).1⟩
        | false =>
          go_wp2_with (first
            | (go_at_call 8
               refine (unhide HCS wr _ (unhide HQ9)).mono ?_
               rintro e wa ⟨rfl, hBa⟩
               have HBa := hide ((unhide HBr).trans (hBa.mono (unhide HBr).size))
               clear hBa)
            | (go_at_call 11
               refine (known5_any _).mono ?_
               rintro e wz ⟨rfl, hbz⟩))
          go_ret
          exact ⟨rfl, (unhide HX wz ((unhide HBa).trans (hbz.mono (unhide HBa).size))).1⟩
  · have HSL := hide hSl'
    clear hSl'
    go_enter Tryz.func5, Tryz.ntmps5
    go_wp2_with (first
      | (go_at_call 6
         rw [unhide HW1]
         refine (unhide HG).mono ?_
         rintro e w1 ⟨rfl, hB1⟩
         have x1 := (unhide HBX w1 hB1).2.1
         have x2 := (unhide HBX w1 hB1).2.2
         have HB1 := hide hB1
         clear hB1)
      | (go_at_call_of 12 l
         refine (unhide HS1 w1 (unhide HB1)).mono ?_
         rintro e w2 ⟨v', es, rfl, hmap, hown, hb2⟩
         obtain ⟨ga, gc, rfl, _, _⟩ := (hown.nodesS hmap (unhide HSS)).len
         obtain ⟨W3, hW3⟩ : ∃ W3, w2.alloc (.cells #[.slice ga S.length gc] 24) = W3 := ⟨_, rfl⟩
         have H3 := hide (box3 (unhide HSS) hmap hown hb2 hW3)
         have HMAP := hide hmap
         have HOWN := hide hown
         have HB2 := hide hb2
         have HW3 := hide hW3
         clear hmap hown hb2 hW3 x1 x2)
      | (go_at_call_of 12 S
         rw [unhide HW3]
         refine (unhide HS2 W3 _ (unhide H3 W3 (Below.refl _ _)).2.2.2).mono ?_
         rintro e w4 ⟨v'', es', rfl, hmap', hown', hb4⟩
         obtain ⟨gb, gd, rfl, _, _⟩ := (hown'.nodesS hmap' (unhide HSS)).len
         obtain ⟨W5, hW5⟩ : ∃ W5, w4.alloc (.cells #[.slice gb S.length gd] 24) = W5 := ⟨_, rfl⟩
         have HX := hide (unhide HB5 w1 w2 W3 w4 W5 _ _ es es' (unhide HB1) (unhide HMAP) (unhide HOWN) (unhide HB2) (unhide HW3) hmap' hown' hb4 hW5)
         have HW5 := hide hW5
         have y4 := (unhide H3 w4 hb4).2.1
         have y5 := (unhide H3 w4 hb4).2.2.1
         clear hmap' hown' hb4 hW5)
      | (fail_if_success (go_at_call_of 16 l)
         go_at_call 16
         rw [unhide HW5]
         refine (unhide HSM W5 _ _ S (unhide HX W5 (Below.refl _ _)).2.2.2.2.2.2.2.2.1 (unhide HX W5 (Below.refl _ _)).2.2.2.2.2.2.2.2.2 rfl).mono ?_
         rintro e w6 ⟨rfl, hB6⟩
         have z1 := (unhide HX w6 hB6).2.1
         have z2 := (unhide HX w6 hB6).2.2.1
         have HB6 := hide hB6
         clear hB6 y4 y5)
      | (go_at_call_of 8 l
         refine (unhide HCL w6 (unhide HX w6 (unhide HB6)).2.2.2.2.2.2.2.1 (Nat.le_trans hM (unhide HX w6 (unhide HB6)).1.size)).mono ?_
         rintro e w7 ⟨rfl, hB7⟩
         have hB57 := (unhide HB6).trans (hB7.mono (unhide HB6).size)
         have u1 := (unhide HX w7 hB57).2.1
         have u2 := (unhide HX w7 hB57).2.2.1
         have u3 := (unhide HX w7 hB57).2.2.2.1
         have u4 := (unhide HX w7 hB57).2.2.2.2.1
         have HB7 := hide hB57
         clear hB7 hB57 z1 z2)
      | (go_at_call_of 16 l
         refine (unhide HSM w7 _ _ l (unhide HX w7 (unhide HB7)).2.2.2.2.2.2.2.2.1 ((unhide HX w7 (unhide HB7)).2.2.2.2.2.2.2.1.mono (Nat.le_trans hM (unhide HX w7 (unhide HB7)).1.size)) (unhide HSL).symm).mono ?_
         rintro e w8 ⟨rfl, hB8⟩
         have hB58 := (unhide HB7).trans (hB8.mono (unhide HB7).size)
         have s3 := (unhide HX w8 hB58).2.2.2.1
         have s4 := (unhide HX w8 hB58).2.2.2.2.1
         have HB8 := hide hB58
         clear hB8 hB58 u1 u2 u3 u4)
      | (go_at_call 17
         refine (unhide HTC w8 _ (unhide HX w8 (unhide HB8)).2.2.2.2.2.2.2.2.1).mono ?_
         rintro e w9 ⟨rfl, hB9⟩
         have hB59 := (unhide HB8).trans (hB9.mono (unhide HB8).size)
         have HB9 := hide hB59
         clear hB9 hB59))
    go_loopw [11, 12, 13] (fun t11 t12 t13 wr => ∃ i : Nat, i ≤ S.length ∧ t12 = .int .i64 (i : Int) ∧ t11 = .bool (makesU S i) ∧ Below W5.heap.size W5 wr) (fun _ t12 _ _ => S.length - (intOf t12).toNat)
    case atStart => exact ⟨0, Nat.zero_le _, rfl, rfl, unhide HB9⟩
    case round =>
      obtain ⟨i, hi, rfl, rfl, hB⟩ := hrel
      obtain ⟨q1, q2, q3, q4, q5, q6, q7, q8, q9, q10⟩ := unhide HX wr hB
      by_cases hil : i < S.length
      · have hil' : (i : Int) < S.length := by omega
        obtain ⟨b, o, cap0, ka, kc, hv, _, _, hb, d0, _, d2', _, _, _, _, _⟩ := q9.at hil
        cases hv
        obtain ⟨n1, n2, n3, n4, n5, n6⟩ := unhide HKI i hil
        have hMU := makesU_succ hil
        have hbl : b < wr.heap.size := hb
        unfold makeN at hMU
        revert d0 d2' n1 n2 n3 n4 n5 n6 hMU
        generalize (nd S i).kind = k
        generalize (nd S i).num = nm
        generalize makesU S i = mu
        intro d0 d2' n1 n2 n3 n4 n5 n6 hMU
        have b1 : decide ((80 : Int) ≤ k) = false := decide_eq_false (by omega)
        have b1' : ¬ (80 : Int) ≤ k := by omega
        have b2 : (k == 33) = false := beq_eq_false_iff_ne.2 n2
        have b3 : (k == 34) = false := beq_eq_false_iff_ne.2 n3
        have b4 : (k == 51) = false := beq_eq_false_iff_ne.2 n4
        have b5 : (k == 52) = false := beq_eq_false_iff_ne.2 n5
        have b6 : (k == 67) = false := beq_eq_false_iff_ne.2 n6
        have HBr := hide hB
        clear q1 q2 q3 q6 q7 q8 q9 q10 n1 n2 n3 n4 n5 n6 hB
        cases mu with
        | true =>
          have HMU : Hid (makesU S (i + 1) = true) := hMU
          clear hMU
          go_wp2
          exact ⟨⟨i + 1, by omega, by go_num, by rw [unhide HMU], unhide HBr⟩, by simp [intOf]; omega⟩
        | false =>
          cases e47 : (k == 47) with
          | true =>
            have HMU : Hid (makesU S (i + 1) = true) := by show _ = _; rw [hMU, e47]; rfl
            clear hMU
            go_wp2
            exact ⟨⟨i + 1, by omega, by go_num, by rw [unhide HMU], unhide HBr⟩, by simp [intOf]; omega⟩
          | false =>
            cases e49 : (k == 49) with
            | true =>
              have HMU : Hid (makesU S (i + 1) = true) := by show _ = _; rw [hMU, e47, e49]; rfl
              clear hMU
              go_wp2
              exact ⟨⟨i + 1, by omega, by go_num, by rw [unhide HMU], unhide HBr⟩, by simp [intOf]; omega⟩
            | false =>
              cases e66 : (k == 66) with
              | true =>
                cases enm : (nm != 0) with
                | true =>
                  have HMU : Hid (makesU S (i + 1) = true) := by show _ = _; rw [hMU, e47, e49, e66, enm]; rfl
                  clear hMU
                  go_wp2
                  exact ⟨⟨i + 1, by omega, by go_num, by rw [unhide HMU], unhide HBr⟩, by simp [intOf]; omega⟩
                | false =>
                  have HMU : Hid (makesU S (i + 1) = false) := by show _ = _; rw [hMU, e47, e49, e66, enm]; rfl
                  clear hMU
                  go_wp2
                  exact ⟨⟨i + 1, by omega, by go_num, by rw [unhide HMU], unhide HBr⟩, by simp [intOf]; omega⟩
              | false =>
                have HMU : Hid (makesU S (i + 1) = false) := by show _ = _; rw [hMU, e47, e49, e66]; rfl
                clear hMU
                go_wp2
                exact ⟨⟨i + 1, by omega, by go_num, by rw [unhide HMU], unhide HBr⟩, by simp [intOf]; omega⟩
      · have hil' : ¬ (i : Int) < S.length := by omega
        obtain rfl : i = S.length := by omega
        have HQ9 := hide q9
        have HBr := hide hB
        have hmu : makesU S S.length = mk := (makesU_all S).trans (unhide HMK)
        rw [hmu]
        clear q1 q2 q3 q6 q7 q8 q9 q10 hB hmu
        cases mk with
        | true =>
          go_wp2_with (first
            | (go_at_call 8
               refine (unhide HCS wr _ (unhide HQ9)).mono ?_
               rintro e wa ⟨rfl, hBa⟩
               have HBa := hide ((unhide HBr).trans (hBa.mono (unhide HBr).size))
               clear hBa)
            | (go_at_call 11
               refine (known5_any _).mono ?_
               rintro e wz ⟨rfl, hbz⟩))
          go_ret
          exact ⟨rfl, (unhide HX wz ((unhide HBa).trans (hbz.mono (unhide HBa).size))).1⟩
        | false =>
          go_wp2_with (first
            | (go_at_call 8
               refine (unhide HCS wr _ (unhide HQ9)).mono ?_
               rintro e wa ⟨rfl, hBa⟩
               have HBa := hide ((unhide HBr).trans (hBa.mono (unhide HBr).size))
               clear hBa)
            | (go_at_call 11
               refine (known5_any _).mono ?_
               rintro e wz ⟨rfl, hbz⟩))
          go_ret
          exact ⟨rfl, (unhide HX wz ((unhide HBa).trans (hbz.mono (unhide HBa).size))).1⟩

set_option maxRecDepth 100000 in
set_option maxHeartbeats 4000000 in
theorem twice_law (W : World) (M : Nat) (v : Value) (l : List Nd) (hN : NodesR W M v l) (hM : M ≤ W.heap.size) :
    Calls Tryz.prog 5 #[.agg #[v]] W fun e w' => e = .returned (.bool true) ∧ Below W.heap.size W w' := by
  by_cases hal : szN l l.length ≤ 3000
  · by_cases h : (chkP l).2 = 0 ∧ topK l = true
    · exact twice_yes W M v l hN hM hal h.1 h.2
    · exact twice_no W M v l hN hM hal h
  · obtain ⟨W1, hW1⟩ : ∃ W1, W.alloc (.cells #[v] 24) = W1 := ⟨_, rfl⟩
    have hB1 : Below W.heap.size W W1 := by rw [← hW1]; exact (Below.refl _ W).alloc (Nat.le_refl _) _
    have hz1 : W1.heap.size = W.heap.size + 1 := by rw [← hW1]; simp
    have HG := hide (great_reach W1 M v l (hN.keep hB1 hM) (Nat.le_trans hM hB1.size))
    have ha : decide (3000 < szN l l.length) = true := by simpa using hal
    rw [ha] at HG
    obtain ⟨a, cap, rfl, _, _⟩ := hN.len
    have HW1 := hide hW1
    have HB1 := hide hB1
    clear ha hN hB1 hW1 hz1 hal
    go_enter Tryz.func5, Tryz.ntmps5
    go_wp2_with (go_at_call 6; rw [unhide HW1]; refine (unhide HG).mono ?_; rintro e w2 ⟨rfl, hB2⟩)
    go_ret
    exact ⟨rfl, (unhide HB1).trans (hB2.mono (unhide HB1).size)⟩
end Go.Proofs.YtnnpkomedpjlcaaGreatDoor

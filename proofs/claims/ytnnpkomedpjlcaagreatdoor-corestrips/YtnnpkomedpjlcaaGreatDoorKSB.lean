/- Merged: KO2, KP2, KV5, KS1, KS2, KS3, KS4. -/
import Derived.ArgAppend
import Derived.BigQuiet
import Derived.Deep.AppendLies
import Derived.Deep.RegionLaw
import Derived.Laws.OwnMore
import Derived.LoopN
import Derived.OwnWalk
import Derived.Test.YtnnpkomedpjlcaaGreatDoorG7
import Derived.Test.YtnnpkomedpjlcaaGreatDoorKCC
import Derived.Test.YtnnpkomedpjlcaaGreatDoorKCX
import Derived.Test.YtnnpkomedpjlcaaGreatDoorKMm
import Derived.Test.YtnnpkomedpjlcaaGreatDoorKSA
/- core.Strip in general. -/
namespace Go.Proofs.YtnnpkomedpjlcaaGreatDoor
set_option linter.unusedSimpArgs false
set_option linter.unusedVariables false
open Go.RowKit Go.Shelf

/-- Kinds of expressions. -/
def exprK (k : Int) : Bool := decide (10 ≤ k) && decide (k ≤ 34) && k != 21
set_option maxRecDepth 100000 in
set_option maxHeartbeats 4000000 in
theorem exprK_any (W : World) (k : Int) : Calls Tryz.prog 24 #[.int .i64 k] W fun e w' => e = .returned (.bool (exprK k)) ∧ w' = W := by
  unfold exprK
  by_cases h1 : (10 : Int) ≤ k
  · by_cases h2 : k ≤ 34
    · by_cases h3 : k = 21
      · subst h3
        go_enter Tryz.func24, Tryz.ntmps24
        go_wp2
        go_ret
        exact ⟨rfl, rfl⟩
      · have h3' : (k != 21) = true := by simpa using h3
        have d1 : decide ((10 : Int) ≤ k) = true := decide_eq_true h1
        have d2 : decide (k ≤ (34 : Int)) = true := decide_eq_true h2
        rw [d1, d2, h3']
        go_enter Tryz.func24, Tryz.ntmps24
        go_wp2
        go_ret
        exact ⟨rfl, rfl⟩
    · have d1 : decide ((10 : Int) ≤ k) = true := decide_eq_true h1
      have d2 : decide (k ≤ (34 : Int)) = false := decide_eq_false h2
      rw [d1, d2]
      go_enter Tryz.func24, Tryz.ntmps24
      go_wp2
      go_ret
      exact ⟨rfl, rfl⟩
  · have d1 : decide ((10 : Int) ≤ k) = false := decide_eq_false h1
    rw [d1]
    go_enter Tryz.func24, Tryz.ntmps24
    go_wp2
    go_ret
    exact ⟨rfl, rfl⟩
/-- A row of nodes of the call's own, a cell ahead of it set. -/
theorem OwnN.low {w : World} {B B' k : Nat} {v y : Value} {es : List NE} (h : OwnN w B v es) (hk : k < B) (hB : B' ≤ B) : OwnN (w.setCell ⟨k, 0, none⟩ y) B' v es := by
  refine ⟨(ownsRow_heap h.1 fun g hg => Below.heap_setCell _ _ _ _ (by have := (h.1.lt g hg).1; show g ≠ k; omega)).mono hB, fun e he => ?_⟩
  obtain ⟨k1, k2, k3⟩ := h.2 e he
  refine ⟨k1, k2, ?_⟩
  rcases k3 with k3 | ⟨kb, cur, ha, hkb, hkh, hkc⟩
  · exact .inl k3
  · exact .inr ⟨kb, cur, ha, by omega, (Below.heap_setCell _ _ _ _ (by show kb ≠ k; omega)).trans hkh, hkc⟩
theorem OwnR.low {w : World} {B B' k : Nat} {v y : Value} {es : List NE} (h : OwnR w B v es) (hk : k < B) (hB : B' ≤ B) : OwnR (w.setCell ⟨k, 0, none⟩ y) B' v es := by
  have h0 := h.ownN.low (y := y) hk hB
  refine ⟨h0.1, fun e he => ⟨h0.2 e he, (h.2 e he).2.1, fun hne => (ownsRow_heap ((h.2 e he).2.2 hne) fun g hg => Below.heap_setCell _ _ _ _ ?_).mono hB⟩⟩
  have := (((h.2 e he).2.2 hne).lt g hg).1
  show g ≠ k
  omega
/-- May this be stripped? -/
def topK (l : List Nd) : Bool := (nd l 0).kind == 3 || exprK (nd l 0).kind

set_option maxRecDepth 100000 in
set_option maxHeartbeats 4000000 in
theorem strip_yes (W : World) (M : Nat) (v : Value) (l : List Nd) (hN : Nodes W M v l) (hM : M ≤ W.heap.size) (hl : l.length ≤ 100000) (hc : (chkP l).2 = 0) (ht : topK l = true) :
    Calls Tryz.prog 12 #[.agg #[v]] W fun e w' => ∃ v' es, e = .returned (.tuple #[.agg #[v'], .int .i64 0]) ∧ es.map NE.x = stripP l ∧ OwnR w' W.heap.size v' es ∧ KidP es ∧ Below W.heap.size W w' := by
  have hl0 : 0 < l.length := (chk_fine hc).1
  obtain ⟨b, o, cap, ka, kc, rfl, hc1, hc2, hb, d0, _, _, _, _, _, _, _⟩ := hN.at hl0
  obtain ⟨W1, hW1⟩ : ∃ W1, (W.alloc (.cells #[.slice (some ⟨b, o, none⟩) l.length cap] 24)).alloc (.cells #[.slice none 0 0] 24) = W1 := ⟨_, rfl⟩
  have hB1 : Below W.heap.size W W1 := by rw [← hW1]; exact ((Below.refl _ W).alloc (Nat.le_refl _) _).alloc (by simp) _
  have hz1 : W1.heap.size = W.heap.size + 1 + 1 := by rw [← hW1]; simp
  have hx1 : W1.heap[W.heap.size]? = some (.cells #[.slice (some ⟨b, o, none⟩) l.length cap] 24) := by rw [← hW1]; exact rat_a2 W _ _
  have hx2 : W1.heap[W.heap.size + 1]? = some (.cells #[.slice none 0 0] 24) := by
    rw [← hW1]
    have := World.alloc_heap_new (W.alloc (.cells #[.slice (some ⟨b, o, none⟩) l.length cap] 24)) (.cells #[.slice none 0 0] 24)
    rw [World.size_alloc] at this
    exact this
  have HC := hide (check_ok W1 M _ l (hN.keep hB1 hM) (Nat.le_trans hM hB1.size))
  obtain ⟨c1, hc1'⟩ : ∃ c1, (chkP l).1 = c1 := ⟨_, rfl⟩
  rw [hc, hc1'] at HC
  have HBX : Hid (∀ w', Below W1.heap.size W1 w' → Below W.heap.size W w' ∧ w'.cell? ⟨W.heap.size, 0, none⟩ = some (.slice (some ⟨b, o, none⟩) l.length cap) ∧ w'.cell? ⟨W.heap.size + 1, 0, none⟩ = some (.slice none 0 0) ∧ w'.frozen? ⟨W.heap.size + 1, 0, none⟩ = false ∧ W.heap.size < w'.heap.size ∧ W.heap.size + 1 < w'.heap.size ∧ Nodes w' M (.slice (some ⟨b, o, none⟩) l.length cap) l ∧ w'.cell? ⟨b, o, none⟩ = some (.int .i64 (nd l 0).kind) ∧ b < w'.heap.size) := fun w' h => by
    have hs := h.size
    have hw := hB1.trans (h.mono (by omega))
    have y1 := (h.block W.heap.size (by omega)).trans hx1
    have y2 := (h.block (W.heap.size + 1) (by omega)).trans hx2
    have hd0 : W.cell? ⟨b, o, none⟩ = some (.int .i64 (nd l 0).kind) := d0
    exact ⟨hw, by rw [Lib.cell_of_heap y1]; rfl, by rw [Lib.cell_of_heap y2]; rfl, rfrozen_at y2 0, by omega, by omega, hN.keep hw hM, (hw.cell (p := ⟨b, o, none⟩) (by show b < W.heap.size; omega)).trans hd0, by omega⟩
  have HW1 := hide hW1
  have HZ1 := hide hz1
  have HX2 := hide hx2
  obtain ⟨k0, hk0⟩ : ∃ k0, (nd l 0).kind = k0 := ⟨_, rfl⟩
  have HK0 := hide hk0
  rw [hk0] at HBX
  have hl0' : (0 : Int) < (l.length : Int) := by omega
  have HEX := hide fun w' => exprK_any w' k0
  have hk3 : (k0 != 3) = false ∨ ((k0 != 3) = true ∧ exprK k0 = true) := by
    unfold topK at ht
    rw [hk0] at ht
    by_cases h : k0 = 3
    · exact .inl (by simp [h])
    · refine .inr ⟨by simpa using h, ?_⟩
      have : (k0 == 3) = false := beq_eq_false_iff_ne.2 h
      rw [this, Bool.false_or] at ht
      exact ht
  have hen : en l 0 = l.length := (chk_fine hc).2.2
  have HHC := hide hc
  clear hN hB1 hW1 hx1 hx2 hz1 d0 hc1' hc ht hk0
  rcases hk3 with hk3 | ⟨hk3, hex⟩
  all_goals (
    go_enter Tryz.func12, Tryz.ntmps12
    go_wp2_with (first
      | (go_at_call 17
         rw [unhide HW1]
         refine (unhide HC).mono ?_
         rintro e w2 ⟨rfl, hB2⟩
         obtain ⟨_, x1, x2, x3, x4, x5, hN2, n0, hb2⟩ := unhide HBX w2 hB2
         obtain ⟨W5, hW5⟩ : ∃ W5, w2.alloc (.cells #[.slice (some ⟨b, o, none⟩) l.length cap, .slice none 0 0] 50) = W5 := ⟨_, rfl⟩
         have hB25 : Below w2.heap.size w2 W5 := (by rw [← hW5]; exact (Below.refl _ w2).alloc (Nat.le_refl _) _)
         have hz5 : W5.heap.size = w2.heap.size + 1 := (by rw [← hW5]; simp)
         have hS5 : StAt W5 w2.heap.size w2.heap.size (.slice (some ⟨b, o, none⟩) l.length cap) (.slice none 0 0) [] := ⟨(by rw [← hW5]; exact World.alloc_heap_new w2 _), World.ownsRow_nil _ _ _ _, fun e he => (by cases he)⟩
         have hsz2 := hB2.size
         have HSP := hide (strip_any (unhide HHC) hl M w2.heap.size w2.heap.size (.slice (some ⟨b, o, none⟩) l.length cap) (by have := unhide HZ1; omega) (Nat.le_refl _) _ 0 (Nat.le_refl _) hl0 W5 (.slice none 0 0) [] (hN2.keep hB25 (by have := unhide HZ1; omega)) (by omega) hS5 (by rw [hen]; simp; omega))
         have HW5 := hide hW5
         have HS5 := hide hS5
         have HB2 := hide hB2
         have HB25 := hide hB25
         have HZ5 := hide hz5
         rw [unhide HK0] at HSP
         clear hB2 hN2 hW5 hS5 hB25 hz5 hsz2)
      | (go_at_call 24; refine (unhide HEX _).mono ?_; rw [hex]; rintro e w3 ⟨rfl, hw3⟩; rw [hw3]; clear hw3)
      | (go_at_call 26; refine (rule_any _ _).mono ?_; rintro e w4 ⟨rfl, hw4⟩; rw [hw4]; clear hw4)
      | (go_at_call 25
         rw [unhide HW5]
         refine (unhide HSP).mono ?_
         rintro e w6 ⟨rfl, lv6, es6, hst6, hmap6, hnew6, hkp6, hf6⟩
         have hB56 := hf6.below (unhide HS5) (Nat.le_refl _) (by have := unhide HZ5; omega)
         have hB26 := (unhide HB25).trans hB56
         have hB16 := (unhide HB2).trans (hB26.mono (unhide HB2).size)
         obtain ⟨_, v1, v2, v3, v4, v5, _, _, _⟩ := unhide HBX w6 hB16
         obtain ⟨ga, gc, rfl, _, _⟩ : ∃ a c, lv6 = .slice a es6.length c ∧ es6.length ≤ c ∧ True := (by
           rcases hst6.2.1.2 with ⟨rfl, h0⟩ | ⟨g, c, cur, rfl, _, _, hc', _⟩
           · exact ⟨none, 0, by simp at h0; simp [h0], by simp at h0; simp [h0], trivial⟩
           · exact ⟨_, _, rfl, by simpa using hc', trivial⟩)
         have u1 : w6.cell? ⟨w2.heap.size, 1, none⟩ = some (.slice ga es6.length gc) := (by rw [Lib.cell_of_heap hst6.1]; rfl)
         have ul : w2.heap.size < w6.heap.size := (Array.getElem?_eq_some_iff.1 hst6.1).1
         have HB16 := hide hB16
         have HST6 := hide hst6
         have HMP6 := hide hmap6
         have HKP6 := hide hkp6
         clear hB56 hB26 hst6 hB16 hmap6 hnew6 hkp6 hf6))
    have hz := unhide HZ1
    have hlow : W.heap.size + 1 < w2.heap.size := by have := (unhide HB2).size; omega
    have hO6 : OwnR w6 w2.heap.size (.slice ga es6.length gc) es6 := by have := (unhide HST6).2; simpa using this
    obtain ⟨W7, hW7⟩ : ∃ W7, w6.setCell ⟨W.heap.size + 1, 0, none⟩ (.slice ga es6.length gc) = W7 := ⟨_, rfl⟩
    have hO7 : OwnR W7 W.heap.size (.slice ga es6.length gc) es6 := by rw [← hW7]; exact hO6.low hlow (by omega)
    have hx6 : w6.heap[W.heap.size + 1]? = some (.cells #[.slice none 0 0] 24) := ((unhide HB16).block (W.heap.size + 1) (by omega)).trans (unhide HX2)
    have hx7 : W7.heap[W.heap.size + 1]? = some (.cells #[.slice ga es6.length gc] 24) := by rw [← hW7]; exact setK hx6 0 _
    have r7 : W7.cell? ⟨W.heap.size + 1, 0, none⟩ = some (.slice ga es6.length gc) := by rw [Lib.cell_of_heap hx7]; rfl
    have hB7 : Below W.heap.size W W7 := by rw [← hW7]; exact ((unhide HBX w6 (unhide HB16)).1).setCell (p := ⟨W.heap.size + 1, 0, none⟩) (by show W.heap.size ≤ W.heap.size + 1; omega) _
    rw [hW7]
    exact bodyPost_ret (v := .tuple #[.agg #[.slice ga es6.length gc], .int .i64 0]) (by simp [results, Tryz.results12, go_sem, r7]) rfl ⟨_, es6, rfl, by rw [unhide HMP6]; rfl, hO7, unhide HKP6, hB7⟩)
end Go.Proofs.YtnnpkomedpjlcaaGreatDoor

/- core.Strip of what may not be stripped. -/
namespace Go.Proofs.YtnnpkomedpjlcaaGreatDoor
set_option linter.unusedSimpArgs false
set_option linter.unusedVariables false
open Go.RowKit Go.Shelf

/-- Nothing comes back but an error. -/
def StripNo (k : Int) (W : World) (e : Ending) (w' : World) : Prop := e = .returned (.tuple #[.agg #[.slice none 0 0], .int .i64 k]) ∧ Below W.heap.size W w'
set_option maxRecDepth 100000 in
set_option maxHeartbeats 4000000 in
theorem strip_bad (W : World) (M : Nat) (v : Value) (l : List Nd) (hN : Nodes W M v l) (hM : M ≤ W.heap.size) (hc : ¬ (chkP l).2 = 0) : Calls Tryz.prog 12 #[.agg #[v]] W (StripNo (chkP l).2 W) := by
  obtain ⟨va, vc, rfl, _, _⟩ := hN.len
  obtain ⟨W1, hW1⟩ : ∃ W1, (W.alloc (.cells #[.slice va l.length vc] 24)).alloc (.cells #[.slice none 0 0] 24) = W1 := ⟨_, rfl⟩
  have hB1 : Below W.heap.size W W1 := by rw [← hW1]; exact ((Below.refl _ W).alloc (Nat.le_refl _) _).alloc (by simp) _
  have hz1 : W1.heap.size = W.heap.size + 1 + 1 := by rw [← hW1]; simp
  have hx2 : W1.heap[W.heap.size + 1]? = some (.cells #[.slice none 0 0] 24) := by
    rw [← hW1]
    have := World.alloc_heap_new (W.alloc (.cells #[.slice va l.length vc] 24)) (.cells #[.slice none 0 0] 24)
    rw [World.size_alloc] at this
    exact this
  have HC := hide (check_ok W1 M _ l (hN.keep hB1 hM) (Nat.le_trans hM hB1.size))
  obtain ⟨c1, hc1'⟩ : ∃ c1, (chkP l).1 = c1 := ⟨_, rfl⟩
  obtain ⟨c2, hc2'⟩ : ∃ c2, (chkP l).2 = c2 := ⟨_, rfl⟩
  rw [hc2'] at hc ⊢
  rw [hc2', hc1'] at HC
  have hcb : (c2 != 0) = true := by simpa using hc
  have HBX : Hid (∀ w', Below W1.heap.size W1 w' → Below W.heap.size W w' ∧ w'.heap[W.heap.size + 1]? = some (.cells #[.slice none 0 0] 24) ∧ W.heap.size + 1 < w'.heap.size) := fun w' h => by
    have hs := h.size
    exact ⟨hB1.trans (h.mono (by omega)), (h.block (W.heap.size + 1) (by omega)).trans hx2, by omega⟩
  have HW1 := hide hW1
  clear hN hB1 hW1 hx2 hz1 hc1' hc2' hc
  go_enter Tryz.func12, Tryz.ntmps12
  go_wp2_with (go_at_call 17; rw [unhide HW1]; refine (unhide HC).mono ?_; rintro e w2 ⟨rfl, hB2⟩; obtain ⟨_, x2, x5⟩ := unhide HBX w2 hB2; have y2 : w2.cell? ⟨W.heap.size + 1, 0, none⟩ = some (.slice none 0 0) := (by rw [Lib.cell_of_heap x2]; rfl); have y3 := rfrozen_at x2 0; have HB2 := hide hB2; have HX2 := hide x2; clear hB2 x2)
  have hx7 := setK (unhide HX2) 0 (.slice none 0 0)
  have hB7 := (unhide HBX w2 (unhide HB2)).1.setCell (p := ⟨W.heap.size + 1, 0, none⟩) (by show W.heap.size ≤ W.heap.size + 1; omega) (.slice none 0 0)
  obtain ⟨W7, hW7⟩ : ∃ W7, w2.setCell ⟨W.heap.size + 1, 0, none⟩ (.slice none 0 0) = W7 := ⟨_, rfl⟩
  rw [hW7] at hx7 hB7 ⊢
  have r7 : W7.cell? ⟨W.heap.size + 1, 0, none⟩ = some (.slice none 0 0) := by rw [Lib.cell_of_heap hx7]; rfl
  exact bodyPost_ret (v := .tuple #[.agg #[.slice none 0 0], .int .i64 c2]) (by simp [results, Tryz.results12, go_sem, r7]) rfl ⟨rfl, hB7⟩

set_option maxRecDepth 100000 in
set_option maxHeartbeats 4000000 in
theorem strip_no (W : World) (M : Nat) (v : Value) (l : List Nd) (hN : Nodes W M v l) (hM : M ≤ W.heap.size) (hc : (chkP l).2 = 0) (ht : topK l = false) : Calls Tryz.prog 12 #[.agg #[v]] W (StripNo 7 W) := by
  have hl0 : 0 < l.length := (chk_fine hc).1
  obtain ⟨b, o, cap, ka, kc, rfl, hc1, hc2, hb, d0, _, _, _, _, _, _, _⟩ := hN.at hl0
  obtain ⟨W1, hW1⟩ : ∃ W1, (W.alloc (.cells #[.slice (some ⟨b, o, none⟩) l.length cap] 24)).alloc (.cells #[.slice none 0 0] 24) = W1 := ⟨_, rfl⟩
  have hB1 : Below W.heap.size W W1 := by rw [← hW1]; exact ((Below.refl _ W).alloc (Nat.le_refl _) _).alloc (by simp) _
  have hz1 : W1.heap.size = W.heap.size + 1 + 1 := by rw [← hW1]; simp
  have hx1 : W1.heap[W.heap.size]? = some (.cells #[.slice (some ⟨b, o, none⟩) l.length cap] 24) := by rw [← hW1]; exact rat_a2 W _ _
  have hx2 : W1.heap[W.heap.size + 1]? = some (.cells #[.slice none 0 0] 24) := by
    rw [← hW1]
    have := World.alloc_heap_new (W.alloc (.cells #[.slice (some ⟨b, o, none⟩) l.length cap] 24)) (.cells #[.slice none 0 0] 24)
    rw [World.size_alloc] at this
    exact this
  have HC := hide (check_ok W1 M _ l (hN.keep hB1 hM) (Nat.le_trans hM hB1.size))
  obtain ⟨c1, hc1'⟩ : ∃ c1, (chkP l).1 = c1 := ⟨_, rfl⟩
  rw [hc, hc1'] at HC
  obtain ⟨k0, hk0⟩ : ∃ k0, (nd l 0).kind = k0 := ⟨_, rfl⟩
  have HBX : Hid (∀ w', Below W1.heap.size W1 w' → Below W.heap.size W w' ∧ w'.cell? ⟨W.heap.size, 0, none⟩ = some (.slice (some ⟨b, o, none⟩) l.length cap) ∧ w'.heap[W.heap.size + 1]? = some (.cells #[.slice none 0 0] 24) ∧ W.heap.size < w'.heap.size ∧ W.heap.size + 1 < w'.heap.size ∧ w'.cell? ⟨b, o, none⟩ = some (.int .i64 k0) ∧ b < w'.heap.size) := fun w' h => by
    have hs := h.size
    have hw := hB1.trans (h.mono (by omega))
    have y1 := (h.block W.heap.size (by omega)).trans hx1
    have hd0 : W.cell? ⟨b, o, none⟩ = some (.int .i64 k0) := by rw [← hk0]; exact d0
    exact ⟨hw, by rw [Lib.cell_of_heap y1]; rfl, (h.block (W.heap.size + 1) (by omega)).trans hx2, by omega, by omega, (hw.cell (p := ⟨b, o, none⟩) (by show b < W.heap.size; omega)).trans hd0, by omega⟩
  have HW1 := hide hW1
  have hl0' : (0 : Int) < (l.length : Int) := by omega
  have HEX := hide fun w' => exprK_any w' k0
  unfold topK at ht
  rw [hk0, Bool.or_eq_false_iff] at ht
  obtain ⟨h3, hex⟩ := ht
  have hk3 : (k0 != 3) = true := by simpa using h3
  clear hN hB1 hW1 hx1 hx2 hz1 d0 hc1' hc hk0 h3
  go_enter Tryz.func12, Tryz.ntmps12
  go_wp2_with (first
    | (go_at_call 17; rw [unhide HW1]; refine (unhide HC).mono ?_; rintro e w2 ⟨rfl, hB2⟩; obtain ⟨_, x1, x2, x4, x5, n0, hb2⟩ := unhide HBX w2 hB2; have y2 : w2.cell? ⟨W.heap.size + 1, 0, none⟩ = some (.slice none 0 0) := (by rw [Lib.cell_of_heap x2]; rfl); have y3 := rfrozen_at x2 0; have HB2 := hide hB2; have HX2 := hide x2; clear hB2 x2)
    | (go_at_call 24; refine (unhide HEX _).mono ?_; rw [hex]; rintro e w3 ⟨rfl, hw3⟩; rw [hw3]; clear hw3))
  have hx7 := setK (unhide HX2) 0 (.slice none 0 0)
  have hB7 := (unhide HBX w2 (unhide HB2)).1.setCell (p := ⟨W.heap.size + 1, 0, none⟩) (by show W.heap.size ≤ W.heap.size + 1; omega) (.slice none 0 0)
  obtain ⟨W7, hW7⟩ : ∃ W7, w2.setCell ⟨W.heap.size + 1, 0, none⟩ (.slice none 0 0) = W7 := ⟨_, rfl⟩
  rw [hW7] at hx7 hB7 ⊢
  have r7 : W7.cell? ⟨W.heap.size + 1, 0, none⟩ = some (.slice none 0 0) := by rw [Lib.cell_of_heap hx7]; rfl
  exact bodyPost_ret (v := .tuple #[.agg #[.slice none 0 0], .int .i64 7]) (by simp [results, Tryz.results12, go_sem, r7]) rfl ⟨rfl, hB7⟩
end Go.Proofs.YtnnpkomedpjlcaaGreatDoor

/- The reference's stripped in general. -/
namespace Go.Proofs.YtnnpkomedpjlcaaGreatDoor
set_option linter.unusedSimpArgs false
set_option linter.unusedVariables false
open Go.RowKit Go.Shelf

/-- What stripped answers of a node. -/
def StrQ (l : List Nd) (n : Nat) (W : World) (e : Ending) (w' : World) : Prop := ∃ v' es, e = .returned (.agg #[v']) ∧ es.map NE.x = lay l n 0 ∧ OwnN w' W.heap.size v' es ∧ Below W.heap.size W w'
/-- What is known of the boxes. -/
def Bx3 (W W1 : World) (M : Nat) (v : Value) (l : List Nd) (x : Nd) (ka : Option Addr) (kc : Nat) : Prop := ∀ w', Below W1.heap.size W1 w' → Below W.heap.size W w' ∧ w'.cell? ⟨W.heap.size, 0, none⟩ = some v ∧ w'.heap[W.heap.size + 1]? = some (.cells #[.slice none 0 0] 24) ∧ w'.heap[W.heap.size + 1 + 1]? = some (.cells #[.int .i64 x.kind, .string x.text, .int .i64 x.num, .slice ka x.kids.length kc, .int .i64 x.at'] 41) ∧ W.heap.size < w'.heap.size ∧ W.heap.size + 1 < w'.heap.size ∧ W.heap.size + 1 + 1 < w'.heap.size ∧ Nodes w' M v l
theorem bx3_of {W W1 : World} {M : Nat} {v : Value} {l : List Nd} {x : Nd} {ka : Option Addr} {kc : Nat} (hN : Nodes W M v l) (hM : M ≤ W.heap.size) (h : ((W.alloc (.cells #[v] 24)).alloc (.cells #[.slice none 0 0] 24)).alloc (.cells #[.int .i64 x.kind, .string x.text, .int .i64 x.num, .slice ka x.kids.length kc, .int .i64 x.at'] 41) = W1) : Bx3 W W1 M v l x ka kc ∧ W1.heap.size = W.heap.size + 1 + 1 + 1 := by
  have hz : W1.heap.size = W.heap.size + 1 + 1 + 1 := by rw [← h]; simp
  have hB : Below W.heap.size W W1 := by rw [← h]; exact (((Below.refl _ W).alloc (Nat.le_refl _) _).alloc (by simp) _).alloc (by simp; omega) _
  have h0 : W1.heap[W.heap.size]? = some (.cells #[v] 24) := by
    rw [← h]
    exact (Below.heap_alloc _ _ _ (by simp; omega)).trans (rat_a2 W _ _)
  have h1 : W1.heap[W.heap.size + 1]? = some (.cells #[.slice none 0 0] 24) := by
    rw [← h]
    have := rat_a2 (W.alloc (.cells #[v] 24)) (.cells #[.slice none 0 0] 24) (.cells #[.int .i64 x.kind, .string x.text, .int .i64 x.num, .slice ka x.kids.length kc, .int .i64 x.at'] 41)
    rw [World.size_alloc] at this
    exact this
  have h2 : W1.heap[W.heap.size + 1 + 1]? = some (.cells #[.int .i64 x.kind, .string x.text, .int .i64 x.num, .slice ka x.kids.length kc, .int .i64 x.at'] 41) := by
    rw [← h]
    have := World.alloc_heap_new ((W.alloc (.cells #[v] 24)).alloc (.cells #[.slice none 0 0] 24)) (.cells #[.int .i64 x.kind, .string x.text, .int .i64 x.num, .slice ka x.kids.length kc, .int .i64 x.at'] 41)
    rw [World.size_alloc, World.size_alloc] at this
    exact this
  refine ⟨fun w' hw => ?_, hz⟩
  have hs := hw.size
  have hb := hB.trans (hw.mono (by omega))
  exact ⟨hb, by rw [Lib.cell_of_heap ((hw.block _ (by omega)).trans h0)]; rfl, (hw.block _ (by omega)).trans h1, (hw.block _ (by omega)).trans h2, by omega, by omega, by omega, hN.keep hb hM⟩

set_option maxRecDepth 100000 in
set_option maxHeartbeats 8000000 in
theorem stripped_main {l : List Nd} (hc : (chkP l).2 = 0) (hl : l.length ≤ 100000) (hts : ∀ x ∈ l, x.text.size ≤ 1048576) (M : Nat) (v : Value) (m : Nat) (hm : m < l.length) (has : ¬ ((nd l m).kind = 33 ∨ (nd l m).kind = 34)) (hok : Ok2 l m)
    (IH : ∀ (q : Nat) (W : World), q < l.length → en l q - q < en l m - m → Ok2 l q → Nodes W M v l → M ≤ W.heap.size → Calls Tryz.prog 29 #[.agg #[v], .int .i64 (q : Int)] W (StrQ l q W))
    (W : World) (hN : Nodes W M v l) (hM : M ≤ W.heap.size) : Calls Tryz.prog 29 #[.agg #[v], .int .i64 (m : Int)] W (StrQ l m W) := by
  obtain ⟨i0, hi, hz0, hz1, hz2⟩ := info_parts infoTree
  have hfi := chk_all hc hm
  have hl1 := hN.1
  obtain ⟨b, o, cap, ka, kc, rfl, hc1, hc2, hb, d0, d1, d2, d3, d4, hkc, hkm, hK⟩ := hN.at hm
  have t1 : (m : Int) < l.length := by omega
  have t2 : (0 : Int) ≤ (m : Int) := by omega
  have t3 : b < W.heap.size := by omega
  have HIH : Hid (∀ (q : Nat) (W : World), q < l.length → en l q - q < en l m - m → Ok2 l q → Nodes W M (.slice (some ⟨b, o, none⟩) l.length cap) l → M ≤ W.heap.size → Calls Tryz.prog 29 #[.agg #[.slice (some ⟨b, o, none⟩) l.length cap], .int .i64 (q : Int)] W (StrQ l q W)) := IH
  clear IH
  obtain ⟨tsm, tsl, tsn⟩ := ts_small hc hl hm has hok
  have hSM : ∀ t ∈ tsU l m (nd l m).kids.length, t.length ≤ 100000 ∧ ∀ y ∈ t, y.text.size ≤ 1048576 ∧ y.kids.length ≤ 100000 := fun t ht => by
    refine ⟨tsl t ht, fun y hy => ⟨?_, (tsm.kids t ht y hy).1⟩⟩
    obtain ⟨k, hk, rfl⟩ := ts_lay hc hm has hok ht
    exact lay_texts hc 1048576 hts _ k (Nat.le_refl _) hk 0 y hy
  -- the node as it is kept
  obtain ⟨nm', hnm'⟩ : ∃ nm', (aloneN (nd l m)).num = nm' := ⟨_, rfl⟩
  have hlay : lay l m 0 = mkT { nd l m with num := nm' } (tsU l m (nd l m).kids.length) := by
    rw [lay_eq hc hm, inn_stop has, mkT, join_all hc hm has hok, ← hnm', Nat.zero_add]
    congr 1
    have := hok.ty
    unfold aloneN
    rw [if_neg (by simp [this])]
    split
    · simp [*]
    · split
      · simp [*]
      · rfl
  have hnum : ((nd l m).kind = 44 ∧ nm' = 0) ∨ ((nd l m).kind = 66 ∧ 2 ≤ (nd l m).num ∧ nm' = 2) ∨ ((nd l m).kind = 66 ∧ ¬ 2 ≤ (nd l m).num ∧ nm' = 0) ∨ ((nd l m).kind ≠ 44 ∧ (nd l m).kind ≠ 66 ∧ nm' = (nd l m).num) := by
    have hty := hok.ty
    rw [← hnm']
    unfold aloneN
    rw [if_neg (by simp [hty])]
    by_cases h44 : (nd l m).kind = 44
    · exact .inl ⟨h44, by rw [if_pos h44]⟩
    · rw [if_neg h44]
      by_cases h66 : (nd l m).kind = 66
      · rw [if_pos h66]
        obtain ⟨r, hr, _, hn, _⟩ := fit_parts hfi.fit
        rw [h66] at hr
        obtain rfl := Option.some.inj hr
        have hn' : (decide (0 ≤ (nd l m).num) && decide ((nd l m).num ≤ 7)) = true := hn
        simp only [Bool.and_eq_true, decide_eq_true_eq] at hn'
        have := mark_two hn'.1 hn'.2
        by_cases h2 : 2 ≤ (nd l m).num
        · exact .inr (.inl ⟨h66, h2, by rw [this]; simp [h2]⟩)
        · exact .inr (.inr (.inl ⟨h66, h2, by rw [this]; simp [h2]⟩))
      · rw [if_neg h66]
        exact .inr (.inr (.inr ⟨h44, h66, rfl⟩))
  obtain ⟨x, hx⟩ : ∃ x, nd l m = x := ⟨_, rfl⟩
  obtain ⟨xk, xt, xn, xks, xat⟩ := x
  rw [hx] at d0 d1 d2 d3 d4 hkc hK has hnum hlay
  simp only at d0 d1 d2 d3 d4 hkc hK has hnum hlay
  have HX : Hid (∀ W1, ((W.alloc (.cells #[.slice (some ⟨b, o, none⟩) l.length cap] 24)).alloc (.cells #[.slice none 0 0] 24)).alloc (.cells #[.int .i64 xk, .string xt, .int .i64 nm', .slice ka xks.length kc, .int .i64 xat] 41) = W1 → Bx3 W W1 M (.slice (some ⟨b, o, none⟩) l.length cap) l ⟨xk, xt, nm', xks, xat⟩ ka kc ∧ W1.heap.size = W.heap.size + 1 + 1 + 1) := fun W1 h => bx3_of hN hM h
  obtain ⟨W1, hW1⟩ : ∃ W1, ((W.alloc (.cells #[.slice (some ⟨b, o, none⟩) l.length cap] 24)).alloc (.cells #[.slice none 0 0] 24)).alloc (.cells #[.int .i64 xk, .string xt, .int .i64 nm', .slice ka xks.length kc, .int .i64 xat] 41) = W1 := ⟨_, rfl⟩
  obtain ⟨hBx, hzW1⟩ := unhide HX W1 hW1
  have HBX := hide hBx
  have HZ1 := hide hzW1
  have HW1 := hide hW1
  have HLAY := hide hlay
  have HC := hide hc
  have HOK := hide hok
  have HXX := hide hx
  have HK := hide hK
  have HFI := hide hfi
  have e33 : (xk == 33) = false := beq_eq_false_iff_ne.2 (fun h => has (.inl h))
  have e34 : (xk == 34) = false := beq_eq_false_iff_ne.2 (fun h => has (.inr h))
  have HAS := hide has
  have HTSM := hide tsm
  have HSM := hide hSM
  have HTSN := hide tsn
  clear HX hN hBx hzW1 hW1 hlay hc hok hx hK hfi has tsm tsl hts hnm' hSM tsn
  rcases hnum with ⟨h44, hn'⟩ | ⟨h66, h2, hn'⟩ | ⟨h66, h2, hn'⟩ | ⟨h44, h66, hn'⟩
  · subst h44
    subst hn'
    go_enter Tryz.func29, Tryz.ntmps29
    go_wp2
    rw [unhide HW1]
    go_loopw [6, 7] (fun t6 t7 wr => ∃ (i : Nat) (tl : List (Value × List NE)), i ≤ xks.length ∧ t7 = .int .i64 (i : Int) ∧ TrAt wr W1.heap.size t6 tl ∧ trN tl = tsU l m i ∧ Below W1.heap.size W1 wr) (fun _ t7 _ => xks.length - (intOf t7).toNat)
    case atStart => exact ⟨0, [], Nat.zero_le _, rfl, ⟨World.ownsRow_nil _ _ _ _, fun p hp => (by cases hp)⟩, rfl, Below.refl _ _⟩
    case round =>
      obtain ⟨w0, hw0⟩ : ∃ w0, w0 = wr := ⟨_, rfl⟩
      subst hw0
      obtain ⟨i, tl, hil, rfl, htr, htn, hBr⟩ := hrel
      obtain ⟨bB, bv, br, bx, s1, s2, s3, bN⟩ := unhide HBX w0 hBr
      obtain ⟨x0, x1, x2, x3, x4⟩ := cells5 bx
      have hsr := hBr.size
      have htl : tl.length ≤ i := by
        have h1 : (trN tl).length = (tsU l m i).length := by rw [htn]
        rw [trN_len] at h1
        have : ∀ j, (tsU l m j).length ≤ j := by
          intro j
          induction j with
          | zero => exact Nat.le_refl _
          | succ j ih =>
            rw [tsU, List.length_append]
            split
            · simp; omega
            · split
              · simp; omega
              · simp; omega
        have := this i
        omega
      by_cases hlt : i < xks.length
      · have hlt' : (i : Int) < xks.length := by omega
        have hkids : (nd l m).kids = xks := by rw [unhide HXX]
        have hkind : (nd l m).kind = (44 : Int) := by rw [unhide HXX]
        have hmem : xks.getD i 0 ∈ (nd l m).kids := by rw [hkids, List.getD_eq_getElem?_getD, List.getElem?_eq_getElem hlt]; exact List.getElem_mem _
        obtain ⟨q, hq1, hqf, hq2, hq3⟩ := chain_kids _ _ _ (unhide HFI).chain _ hmem
        have hkr := kid_ref (unhide HC) hm (by rw [hkind]; exact unhide HAS) (unhide HOK) i (by rw [hkids]; exact hlt)
        have htu : tsU l m (i + 1) = tsU l m i ++ (if emptP (nd l m).kind i = true then [[oneN (if (nd l ((nd l m).kids.getD i 0).toNat).kind = 2 then 2 else 1) (nd l ((nd l m).kids.getD i 0).toNat)]] else if leftQ l ((nd l m).kids.getD i 0).toNat = true then [] else [lay l ((nd l m).kids.getD i 0).toNat 0]) := rfl
        rw [hkids, hkind, hq1, Int.toNat_natCast] at hkr htu
        have hql := hqf.1
        have hqle := hqf.le
        have hmle := (unhide HFI).le
        have hkln : xks.length ≤ l.length := by
          have : ∀ (ks : List Int) (next e : Nat), Chain l ks next e → ks.length ≤ e - next := by
            intro ks
            induction ks with
            | nil => intro next e _; simp
            | cons k ks ih =>
              intro next e h
              have h1 := ih _ _ h.2.2
              have h2 := h.2.1.le
              have h3 := chain_le _ _ _ h.2.2
              simp only [List.length_cons]
              omega
          have := this _ _ _ (unhide HFI).chain
          rw [hkids] at this
          omega
        rcases unhide HK with hK0 | ⟨kb, ko, hka, hkb, hkc0⟩
        · rw [hK0] at hlt; simp at hlt
        subst hka
        have dk : w0.cell? ⟨kb, ko + i, none⟩ = some (.int .i64 (q : Int)) := (bB.cell (p := ⟨kb, ko + i, none⟩) (by show kb < W.heap.size; omega)).trans ((hkc0 i hlt).trans (by rw [hq1]))
        have lkb : kb < w0.heap.size := by have := bB.size; omega
        have lbb : b < w0.heap.size := by have := bB.size; omega
        obtain ⟨b2, o2, cap2, qa, qc, hv2, _, _, _, q0, q1, q2, q3, q4, hqc, hqm, _⟩ := bN.at hql
        cases hv2
        obtain ⟨y, hy⟩ : ∃ y, nd l q = y := ⟨_, rfl⟩
        have HLQ : Hid (∀ w', Below w0.heap.size w0 w' → Calls Tryz.prog 49 #[.agg #[.slice (some ⟨b, o, none⟩) l.length cap], .int .i64 (q : Int)] w' fun e w'' => e = .returned (.bool (leftQ l q)) ∧ Below w'.heap.size w' w'') := fun w' h =>
          left_any w' M _ l q (bN.keep (h.mono (Nat.le_refl _)) (by have := bB.size; omega)) (by have h1 := bB.size; have h2 := h.size; omega) hql (unhide HC)
        have HRC : Hid (Ok2 l q → ∀ w', Below w0.heap.size w0 w' → Calls Tryz.prog 29 #[.agg #[.slice (some ⟨b, o, none⟩) l.length cap], .int .i64 (q : Int)] w' (StrQ l q w')) := fun hq w' h =>
          unhide HIH q w' hql (by omega) hq (bN.keep (h.mono (Nat.le_refl _)) (by have := bB.size; omega)) (by have h1 := bB.size; have h2 := h.size; omega)
        have HNE : Hid (lay l q 0 ≠ []) := (lay_in (unhide HC) _ q (Nat.le_refl _) hql 0).1
        rw [hy] at q0 q1 q2 q3 q4 hqc hkr htu
        obtain ⟨yk, yt, yn, yks, yat⟩ := y
        simp only at q0 q1 q2 q3 q4 hqc hkr htu
        obtain ⟨wy, hwy⟩ : ∃ wy, w0.alloc (.cells #[.int .i64 yk, .string yt, .int .i64 yn, .slice qa yks.length qc, .int .i64 yat] 41) = wy := ⟨_, rfl⟩
        have HBy : Hid (Below w0.heap.size w0 wy) := by show Below _ _ _; rw [← hwy]; exact (Below.refl _ w0).alloc (Nat.le_refl _) _
        have HLF := hide (unhide HLQ wy (unhide HBy))
        have HWy := hide hwy
        have HTR := hide htr
        have HTN := hide htn
        have HBR := hide hBr
        have hq0' : (q : Int) < l.length := by omega
        have hq00 : (0 : Int) ≤ (q : Int) := by omega
        obtain ⟨lq, hlq⟩ : ∃ lq, leftQ l q = lq := ⟨_, rfl⟩
        rw [hlq] at HLF htu hkr
        clear hwy htr htn hBr bB br bx bN hmem hkids hkind hqf hkc0 hy hq1 hq2 hq3 HLQ
        cases HE : emptP (44 : Int) (i : Int) with
        | true =>
          rw [HE] at htu
          simp only [if_true] at htu
          by_cases hy2 : yk = 2
          · rw [if_pos hy2] at htu
            subst hy2
            have HTU := hide htu
            clear htu hkr HLF HRC hlq
            go_wp2_with (first
        | (go_at_call 47
           refine (emptied_any _ _ _).mono ?_
           rw [HE]
           rintro e wE ⟨rfl, hwE⟩
           rw [hwE]
           clear hwE)
        | (go_at_call 48
           rw [unhide HWy]
           refine (one_any wy 2 ⟨2, yt, yn, yks, yat⟩ qa qc).mono ?_
           rintro e w2 ⟨v2, rfl, hown2, hb2⟩
           obtain ⟨ug, uc, rfl, _⟩ := hown2.1.form (by simp)
           obtain ⟨ua, hua⟩ : ∃ ua, some (⟨ug, 0, none⟩ : Addr) = ua := ⟨_, rfl⟩
           obtain ⟨un, hun⟩ : ∃ un, ([⟨oneN 2 ⟨2, yt, yn, yks, yat⟩, none, 0⟩] : List NE).length = un := ⟨_, rfl⟩
           rw [hua, hun] at hown2
           rw [hua, hun]
           clear hua hun
           have hb02 := (unhide HBy).trans (hb2.mono (unhide HBy).size)
           have HTR2 := hide ((unhide HTR).below hb02)
           have HBW2 := hide ((unhide HBR).trans (hb02.mono (unhide HBR).size))
           have HU2 := hide (hown2.mono' (B' := W1.heap.size) (by have h1 := (unhide HBy).size; have h2 := (unhide HBR).size; omega))
           have HM2 : Hid (([⟨oneN 2 ⟨2, yt, yn, yks, yat⟩, none, 0⟩] : List NE).map NE.x = [oneN 2 ⟨2, yt, yn, yks, yat⟩]) := rfl
           have hs2 := (unhide HBW2).size
           clear hown2 hb2 hb02)
        | (at_builtin
           refine wpList_append_lies _ rfl _ _ 66 rfl W1.heap.size 24 i0 _ 1 24 Tryz.underlying66 hi hz0 hz1 hz2 rfl (by decide) _ tl.length (tl.map Prod.fst) rfl ((unhide HTR2).row.alloc _) ⟨w2.heap.size, 0, none⟩ 1 1 [.slice ua un uc] rfl rfl ?c1 ?c2 (by decide) ?c3 ?c4 ?c5 _ rfl ?_))
            case c1 => exact World.news_of_block (cs := #[.slice ua un uc]) (t := 24) (fr := (0, 0)) (World.alloc_heap_new _ _)
            case c2 => intro u hu; simp at hu; subst hu; rfl
            case c3 => unfold maxLen; omega
            case c4 => omega
            case c5 => simp; omega
            intro g8 cap8 w8 hown8 hg8 hat8 hlt8
            have HN8 : Hid (∃ (i' : Nat) (tl' : List (Value × List NE)), i' ≤ xks.length ∧ Value.int .i64 ((i : Int) + 1) = .int .i64 (i' : Int) ∧ TrAt w8 W1.heap.size (.slice (some ⟨g8, 0, none⟩) (tl.length + 1) cap8) tl' ∧ trN tl' = tsU l m i' ∧ Below W1.heap.size W1 w8) := by
              obtain ⟨h1, h2⟩ := (unhide HTR2).grown (unhide HU2) (unhide HBW2) (Nat.le_refl _) hg8 hown8
              exact ⟨i + 1, _, by omega, by simp, h1, by rw [unhide HTU, ← unhide HTN]; simp [trN, unhide HM2], h2⟩
            clear hown8 hg8 hat8 hlt8
            go_wp2
            exact ⟨unhide HN8, by simp [intOf]; omega⟩
          · rw [if_neg hy2] at htu
            have HTU := hide htu
            have ey2 : (yk == 2) = false := beq_eq_false_iff_ne.2 hy2
            clear htu hkr HLF HRC hlq
            go_wp2_with (first
        | (go_at_call 47
           refine (emptied_any _ _ _).mono ?_
           rw [HE]
           rintro e wE ⟨rfl, hwE⟩
           rw [hwE]
           clear hwE)
        | (go_at_call 48
           rw [unhide HWy]
           refine (one_any wy 1 ⟨yk, yt, yn, yks, yat⟩ qa qc).mono ?_
           rintro e w2 ⟨v2, rfl, hown2, hb2⟩
           obtain ⟨ug, uc, rfl, _⟩ := hown2.1.form (by simp)
           obtain ⟨ua, hua⟩ : ∃ ua, some (⟨ug, 0, none⟩ : Addr) = ua := ⟨_, rfl⟩
           obtain ⟨un, hun⟩ : ∃ un, ([⟨oneN 1 ⟨yk, yt, yn, yks, yat⟩, none, 0⟩] : List NE).length = un := ⟨_, rfl⟩
           rw [hua, hun] at hown2
           rw [hua, hun]
           clear hua hun
           have hb02 := (unhide HBy).trans (hb2.mono (unhide HBy).size)
           have HTR2 := hide ((unhide HTR).below hb02)
           have HBW2 := hide ((unhide HBR).trans (hb02.mono (unhide HBR).size))
           have HU2 := hide (hown2.mono' (B' := W1.heap.size) (by have h1 := (unhide HBy).size; have h2 := (unhide HBR).size; omega))
           have HM2 : Hid (([⟨oneN 1 ⟨yk, yt, yn, yks, yat⟩, none, 0⟩] : List NE).map NE.x = [oneN 1 ⟨yk, yt, yn, yks, yat⟩]) := rfl
           have hs2 := (unhide HBW2).size
           clear hown2 hb2 hb02)
        | (at_builtin
           refine wpList_append_lies _ rfl _ _ 66 rfl W1.heap.size 24 i0 _ 1 24 Tryz.underlying66 hi hz0 hz1 hz2 rfl (by decide) _ tl.length (tl.map Prod.fst) rfl ((unhide HTR2).row.alloc _) ⟨w2.heap.size, 0, none⟩ 1 1 [.slice ua un uc] rfl rfl ?c1 ?c2 (by decide) ?c3 ?c4 ?c5 _ rfl ?_))
            case c1 => exact World.news_of_block (cs := #[.slice ua un uc]) (t := 24) (fr := (0, 0)) (World.alloc_heap_new _ _)
            case c2 => intro u hu; simp at hu; subst hu; rfl
            case c3 => unfold maxLen; omega
            case c4 => omega
            case c5 => simp; omega
            intro g8 cap8 w8 hown8 hg8 hat8 hlt8
            have HN8 : Hid (∃ (i' : Nat) (tl' : List (Value × List NE)), i' ≤ xks.length ∧ Value.int .i64 ((i : Int) + 1) = .int .i64 (i' : Int) ∧ TrAt w8 W1.heap.size (.slice (some ⟨g8, 0, none⟩) (tl.length + 1) cap8) tl' ∧ trN tl' = tsU l m i' ∧ Below W1.heap.size W1 w8) := by
              obtain ⟨h1, h2⟩ := (unhide HTR2).grown (unhide HU2) (unhide HBW2) (Nat.le_refl _) hg8 hown8
              exact ⟨i + 1, _, by omega, by simp, h1, by rw [unhide HTU, ← unhide HTN]; simp [trN, unhide HM2], h2⟩
            clear hown8 hg8 hat8 hlt8
            go_wp2
            exact ⟨unhide HN8, by simp [intOf]; omega⟩
        | false =>
          rw [HE] at htu
          simp only [Bool.false_eq_true, if_false] at htu
          cases HQ : lq with
          | true =>
            rw [HQ] at htu HLF
            simp only [if_true, List.append_nil] at htu
            have HTU := hide htu
            clear htu hkr HRC hlq
            go_wp2_with (first
        | (go_at_call 47
           refine (emptied_any _ _ _).mono ?_
           rw [HE]
           rintro e wE ⟨rfl, hwE⟩
           rw [hwE]
           clear hwE)
        | (go_at_call 49
           rw [unhide HWy]
           refine (unhide HLF).mono ?_
           rintro e w3 ⟨rfl, hb3⟩
           have l3 := (unhide HBX w3 ((unhide HBR).trans (((unhide HBy).trans (hb3.mono (unhide HBy).size)).mono (unhide HBR).size))).2.1
           have l4 := (unhide HBX w3 ((unhide HBR).trans (((unhide HBy).trans (hb3.mono (unhide HBy).size)).mono (unhide HBR).size))).2.2.2.2.1
           have HB3 := hide ((unhide HBy).trans (hb3.mono (unhide HBy).size))
           clear hb3))
            have HN8 : Hid (∃ (i' : Nat) (tl' : List (Value × List NE)), i' ≤ xks.length ∧ Value.int .i64 ((i : Int) + 1) = .int .i64 (i' : Int) ∧ TrAt w3 W1.heap.size u6 tl' ∧ trN tl' = tsU l m i' ∧ Below W1.heap.size W1 w3) :=
              ⟨i + 1, tl, by omega, by simp, (unhide HTR).below (unhide HB3), by rw [unhide HTU]; exact unhide HTN, (unhide HBR).trans ((unhide HB3).mono (unhide HBR).size)⟩
            exact ⟨unhide HN8, by simp [intOf]; omega⟩
          | false =>
            rw [HQ] at htu HLF
            simp only [Bool.false_eq_true, if_false] at htu
            have HTU := hide htu
            have HREC := hide (unhide HRC ((hkr.2 HE).2 HQ))
            clear htu hkr HRC hlq
            go_wp2_with (first
        | (go_at_call 47
           refine (emptied_any _ _ _).mono ?_
           rw [HE]
           rintro e wE ⟨rfl, hwE⟩
           rw [hwE]
           clear hwE)
        | (go_at_call 49
           rw [unhide HWy]
           refine (unhide HLF).mono ?_
           rintro e w3 ⟨rfl, hb3⟩
           have l3 := (unhide HBX w3 ((unhide HBR).trans (((unhide HBy).trans (hb3.mono (unhide HBy).size)).mono (unhide HBR).size))).2.1
           have l4 := (unhide HBX w3 ((unhide HBR).trans (((unhide HBy).trans (hb3.mono (unhide HBy).size)).mono (unhide HBR).size))).2.2.2.2.1
           have HB3 := hide ((unhide HBy).trans (hb3.mono (unhide HBy).size))
           clear hb3)
        | (go_at_call 29
           refine (unhide HREC w3 (unhide HB3)).mono ?_
           rintro e w2 ⟨v2, es2, rfl, hmap2, hown2, hb2⟩
           obtain ⟨ug, uc, rfl, _⟩ := hown2.1.form (by have h1 := congrArg List.length hmap2; rw [List.length_map] at h1; rw [h1]; exact List.length_pos_iff.2 (unhide HNE))
           obtain ⟨ua, hua⟩ : ∃ ua, some (⟨ug, 0, none⟩ : Addr) = ua := ⟨_, rfl⟩
           obtain ⟨un, hun⟩ : ∃ un, es2.length = un := ⟨_, rfl⟩
           rw [hua, hun] at hown2
           rw [hua, hun]
           clear hua hun
           have hb02 := (unhide HB3).trans (hb2.mono (unhide HB3).size)
           have HTR2 := hide ((unhide HTR).below hb02)
           have HBW2 := hide ((unhide HBR).trans (hb02.mono (unhide HBR).size))
           have HU2 := hide (hown2.mono' (B' := W1.heap.size) (by have h1 := (unhide HB3).size; have h2 := (unhide HBR).size; omega))
           have HM2 := hide hmap2
           have hs2 := (unhide HBW2).size
           clear hown2 hb2 hb02 hmap2 l3 l4)
        | (at_builtin
           refine wpList_append_lies _ rfl _ _ 66 rfl W1.heap.size 24 i0 _ 1 24 Tryz.underlying66 hi hz0 hz1 hz2 rfl (by decide) _ tl.length (tl.map Prod.fst) rfl ((unhide HTR2).row.alloc _) ⟨w2.heap.size, 0, none⟩ 1 1 [.slice ua un uc] rfl rfl ?c1 ?c2 (by decide) ?c3 ?c4 ?c5 _ rfl ?_))
            case c1 => exact World.news_of_block (cs := #[.slice ua un uc]) (t := 24) (fr := (0, 0)) (World.alloc_heap_new _ _)
            case c2 => intro u hu; simp at hu; subst hu; rfl
            case c3 => unfold maxLen; omega
            case c4 => omega
            case c5 => simp; omega
            intro g8 cap8 w8 hown8 hg8 hat8 hlt8
            have HN8 : Hid (∃ (i' : Nat) (tl' : List (Value × List NE)), i' ≤ xks.length ∧ Value.int .i64 ((i : Int) + 1) = .int .i64 (i' : Int) ∧ TrAt w8 W1.heap.size (.slice (some ⟨g8, 0, none⟩) (tl.length + 1) cap8) tl' ∧ trN tl' = tsU l m i' ∧ Below W1.heap.size W1 w8) := by
              obtain ⟨h1, h2⟩ := (unhide HTR2).grown (unhide HU2) (unhide HBW2) (Nat.le_refl _) hg8 hown8
              exact ⟨i + 1, _, by omega, by simp, h1, by rw [unhide HTU, ← unhide HTN]; simp [trN, unhide HM2], h2⟩
            clear hown8 hg8 hat8 hlt8
            go_wp2
            exact ⟨unhide HN8, by simp [intOf]; omega⟩
      · have hlt' : ¬ (i : Int) < xks.length := by omega
        obtain rfl : i = xks.length := by omega
        have hkids : (nd l m).kids = xks := by rw [unhide HXX]
        have hsm := unhide HTSM
        have hSM := unhide HSM
        have htsn := unhide HTSN
        rw [hkids] at hsm hSM htsn
        rw [← htn] at hsm hSM htsn
        obtain ⟨ra, rc, hu6, hrc⟩ := htr.form
        subst hu6
        have htrees : TreesAt w0 w0.heap.size ra (tl.map Prod.fst) (trN tl) := htr.trees fun p hp => by
          have hm1 : p.2.map NE.x ∈ trN tl := List.mem_map_of_mem hp
          obtain ⟨h1, h2⟩ := hSM _ hm1
          exact ⟨by simpa using h1, fun e he => h2 e.x (List.mem_map_of_mem he)⟩
        have hmake := make_ref w0 w0.heap.size ⟨(44 : Int), xt, (0 : Int), xks, xat⟩ ka kc ra rc (tl.map Prod.fst) (trN tl) htrees (Nat.le_refl _) hsm (by rw [trN_len]; exact hrc) htsn
        rw [trN_len] at hmake
        have HMAKE := hide hmake
        have HLY : Hid (mkT ⟨(44 : Int), xt, (0 : Int), xks, xat⟩ (trN tl) = lay l m 0) := by show _ = _; rw [htn]; exact (unhide HLAY).symm
        have HBR := hide hBr
        clear hmake htrees hsm hSM htsn htr htn hBr bB br bx bN hkids
        go_wp2_with (go_at_call 50
                     refine (unhide HMAKE).mono ?_
                     rintro e w5 ⟨v5, es5, rfl, hmap5, hown5, hb5⟩
                     obtain ⟨g5, c5, rfl, _⟩ := hown5.1.form (by have h1 := congrArg List.length hmap5; rw [List.length_map] at h1; rw [h1]; simp [mkT])
                     obtain ⟨n5, hn5⟩ : ∃ n5, es5.length = n5 := ⟨_, rfl⟩
                     rw [hn5] at hown5
                     rw [hn5]
                     have hb15 := (unhide HBR).trans (hb5.mono (unhide HBR).size)
                     have hr5 := (unhide HBX w5 hb15).2.2.1
                     have cr5 : w5.cell? ⟨W.heap.size + 1, 0, none⟩ = some (.slice none 0 0) := (by rw [Lib.cell_of_heap hr5]; rfl)
                     have fr5 : w5.frozen? ⟨W.heap.size + 1, 0, none⟩ = false := rfrozen_at hr5 0
                     have lr5 := (unhide HBX w5 hb15).2.2.2.2.2.1
                     have HR5 := hide hr5
                     have HB15 := hide hb15
                     have HO5 := hide hown5
                     have HM5 := hide hmap5
                     have HS5 := hide hb5
                     clear hown5 hmap5 hb5 hn5 hb15 hr5)
        obtain ⟨w9, hw9⟩ : ∃ w9, w5.setCell ⟨W.heap.size + 1, 0, none⟩ (.slice (some ⟨g5, 0, none⟩) n5 c5) = w9 := ⟨_, rfl⟩
        have hrb9 : w9.heap[W.heap.size + 1]? = some (.cells #[.slice (some ⟨g5, 0, none⟩) n5 c5] 24) := by rw [← hw9]; exact setK (unhide HR5) 0 _
        have c9 : w9.cell? ⟨W.heap.size + 1, 0, none⟩ = some (.slice (some ⟨g5, 0, none⟩) n5 c5) := by rw [Lib.cell_of_heap hrb9]; rfl
        have hO9 : OwnN w9 W.heap.size (.slice (some ⟨g5, 0, none⟩) n5 c5) es5 := by rw [← hw9]; exact (unhide HO5).low (by omega) (by omega)
        have hB9 : Below W.heap.size W w9 := by rw [← hw9]; exact ((unhide HBX w5 (unhide HB15)).1).setCell (p := ⟨W.heap.size + 1, 0, none⟩) (by show W.heap.size ≤ W.heap.size + 1; omega) _
        rw [hw9]
        exact bodyPost_ret (v := .agg #[.slice (some ⟨g5, 0, none⟩) n5 c5]) (by simp [results, Tryz.results29, go_sem, c9]) rfl ⟨_, es5, rfl, (unhide HM5).trans (unhide HLY), hO9, hB9⟩
  · subst h66
    subst hn'
    have h2d : decide ((2 : Int) ≤ xn) = true := decide_eq_true h2
    go_enter Tryz.func29, Tryz.ntmps29
    go_wp2
    rw [unhide HW1]
    go_loopw [6, 7] (fun t6 t7 wr => ∃ (i : Nat) (tl : List (Value × List NE)), i ≤ xks.length ∧ t7 = .int .i64 (i : Int) ∧ TrAt wr W1.heap.size t6 tl ∧ trN tl = tsU l m i ∧ Below W1.heap.size W1 wr) (fun _ t7 _ => xks.length - (intOf t7).toNat)
    case atStart => exact ⟨0, [], Nat.zero_le _, rfl, ⟨World.ownsRow_nil _ _ _ _, fun p hp => (by cases hp)⟩, rfl, Below.refl _ _⟩
    case round =>
      obtain ⟨w0, hw0⟩ : ∃ w0, w0 = wr := ⟨_, rfl⟩
      subst hw0
      obtain ⟨i, tl, hil, rfl, htr, htn, hBr⟩ := hrel
      obtain ⟨bB, bv, br, bx, s1, s2, s3, bN⟩ := unhide HBX w0 hBr
      obtain ⟨x0, x1, x2, x3, x4⟩ := cells5 bx
      have hsr := hBr.size
      have htl : tl.length ≤ i := by
        have h1 : (trN tl).length = (tsU l m i).length := by rw [htn]
        rw [trN_len] at h1
        have : ∀ j, (tsU l m j).length ≤ j := by
          intro j
          induction j with
          | zero => exact Nat.le_refl _
          | succ j ih =>
            rw [tsU, List.length_append]
            split
            · simp; omega
            · split
              · simp; omega
              · simp; omega
        have := this i
        omega
      by_cases hlt : i < xks.length
      · have hlt' : (i : Int) < xks.length := by omega
        have hkids : (nd l m).kids = xks := by rw [unhide HXX]
        have hkind : (nd l m).kind = (66 : Int) := by rw [unhide HXX]
        have hmem : xks.getD i 0 ∈ (nd l m).kids := by rw [hkids, List.getD_eq_getElem?_getD, List.getElem?_eq_getElem hlt]; exact List.getElem_mem _
        obtain ⟨q, hq1, hqf, hq2, hq3⟩ := chain_kids _ _ _ (unhide HFI).chain _ hmem
        have hkr := kid_ref (unhide HC) hm (by rw [hkind]; exact unhide HAS) (unhide HOK) i (by rw [hkids]; exact hlt)
        have htu : tsU l m (i + 1) = tsU l m i ++ (if emptP (nd l m).kind i = true then [[oneN (if (nd l ((nd l m).kids.getD i 0).toNat).kind = 2 then 2 else 1) (nd l ((nd l m).kids.getD i 0).toNat)]] else if leftQ l ((nd l m).kids.getD i 0).toNat = true then [] else [lay l ((nd l m).kids.getD i 0).toNat 0]) := rfl
        rw [hkids, hkind, hq1, Int.toNat_natCast] at hkr htu
        have hql := hqf.1
        have hqle := hqf.le
        have hmle := (unhide HFI).le
        have hkln : xks.length ≤ l.length := by
          have : ∀ (ks : List Int) (next e : Nat), Chain l ks next e → ks.length ≤ e - next := by
            intro ks
            induction ks with
            | nil => intro next e _; simp
            | cons k ks ih =>
              intro next e h
              have h1 := ih _ _ h.2.2
              have h2 := h.2.1.le
              have h3 := chain_le _ _ _ h.2.2
              simp only [List.length_cons]
              omega
          have := this _ _ _ (unhide HFI).chain
          rw [hkids] at this
          omega
        rcases unhide HK with hK0 | ⟨kb, ko, hka, hkb, hkc0⟩
        · rw [hK0] at hlt; simp at hlt
        subst hka
        have dk : w0.cell? ⟨kb, ko + i, none⟩ = some (.int .i64 (q : Int)) := (bB.cell (p := ⟨kb, ko + i, none⟩) (by show kb < W.heap.size; omega)).trans ((hkc0 i hlt).trans (by rw [hq1]))
        have lkb : kb < w0.heap.size := by have := bB.size; omega
        have lbb : b < w0.heap.size := by have := bB.size; omega
        obtain ⟨b2, o2, cap2, qa, qc, hv2, _, _, _, q0, q1, q2, q3, q4, hqc, hqm, _⟩ := bN.at hql
        cases hv2
        obtain ⟨y, hy⟩ : ∃ y, nd l q = y := ⟨_, rfl⟩
        have HLQ : Hid (∀ w', Below w0.heap.size w0 w' → Calls Tryz.prog 49 #[.agg #[.slice (some ⟨b, o, none⟩) l.length cap], .int .i64 (q : Int)] w' fun e w'' => e = .returned (.bool (leftQ l q)) ∧ Below w'.heap.size w' w'') := fun w' h =>
          left_any w' M _ l q (bN.keep (h.mono (Nat.le_refl _)) (by have := bB.size; omega)) (by have h1 := bB.size; have h2 := h.size; omega) hql (unhide HC)
        have HRC : Hid (Ok2 l q → ∀ w', Below w0.heap.size w0 w' → Calls Tryz.prog 29 #[.agg #[.slice (some ⟨b, o, none⟩) l.length cap], .int .i64 (q : Int)] w' (StrQ l q w')) := fun hq w' h =>
          unhide HIH q w' hql (by omega) hq (bN.keep (h.mono (Nat.le_refl _)) (by have := bB.size; omega)) (by have h1 := bB.size; have h2 := h.size; omega)
        have HNE : Hid (lay l q 0 ≠ []) := (lay_in (unhide HC) _ q (Nat.le_refl _) hql 0).1
        rw [hy] at q0 q1 q2 q3 q4 hqc hkr htu
        obtain ⟨yk, yt, yn, yks, yat⟩ := y
        simp only at q0 q1 q2 q3 q4 hqc hkr htu
        obtain ⟨wy, hwy⟩ : ∃ wy, w0.alloc (.cells #[.int .i64 yk, .string yt, .int .i64 yn, .slice qa yks.length qc, .int .i64 yat] 41) = wy := ⟨_, rfl⟩
        have HBy : Hid (Below w0.heap.size w0 wy) := by show Below _ _ _; rw [← hwy]; exact (Below.refl _ w0).alloc (Nat.le_refl _) _
        have HLF := hide (unhide HLQ wy (unhide HBy))
        have HWy := hide hwy
        have HTR := hide htr
        have HTN := hide htn
        have HBR := hide hBr
        have hq0' : (q : Int) < l.length := by omega
        have hq00 : (0 : Int) ≤ (q : Int) := by omega
        obtain ⟨lq, hlq⟩ : ∃ lq, leftQ l q = lq := ⟨_, rfl⟩
        rw [hlq] at HLF htu hkr
        clear hwy htr htn hBr bB br bx bN hmem hkids hkind hqf hkc0 hy hq1 hq2 hq3 HLQ
        cases HE : emptP (66 : Int) (i : Int) with
        | true =>
          rw [HE] at htu
          simp only [if_true] at htu
          by_cases hy2 : yk = 2
          · rw [if_pos hy2] at htu
            subst hy2
            have HTU := hide htu
            clear htu hkr HLF HRC hlq
            go_wp2_with (first
        | (go_at_call 47
           refine (emptied_any _ _ _).mono ?_
           rw [HE]
           rintro e wE ⟨rfl, hwE⟩
           rw [hwE]
           clear hwE)
        | (go_at_call 48
           rw [unhide HWy]
           refine (one_any wy 2 ⟨2, yt, yn, yks, yat⟩ qa qc).mono ?_
           rintro e w2 ⟨v2, rfl, hown2, hb2⟩
           obtain ⟨ug, uc, rfl, _⟩ := hown2.1.form (by simp)
           obtain ⟨ua, hua⟩ : ∃ ua, some (⟨ug, 0, none⟩ : Addr) = ua := ⟨_, rfl⟩
           obtain ⟨un, hun⟩ : ∃ un, ([⟨oneN 2 ⟨2, yt, yn, yks, yat⟩, none, 0⟩] : List NE).length = un := ⟨_, rfl⟩
           rw [hua, hun] at hown2
           rw [hua, hun]
           clear hua hun
           have hb02 := (unhide HBy).trans (hb2.mono (unhide HBy).size)
           have HTR2 := hide ((unhide HTR).below hb02)
           have HBW2 := hide ((unhide HBR).trans (hb02.mono (unhide HBR).size))
           have HU2 := hide (hown2.mono' (B' := W1.heap.size) (by have h1 := (unhide HBy).size; have h2 := (unhide HBR).size; omega))
           have HM2 : Hid (([⟨oneN 2 ⟨2, yt, yn, yks, yat⟩, none, 0⟩] : List NE).map NE.x = [oneN 2 ⟨2, yt, yn, yks, yat⟩]) := rfl
           have hs2 := (unhide HBW2).size
           clear hown2 hb2 hb02)
        | (at_builtin
           refine wpList_append_lies _ rfl _ _ 66 rfl W1.heap.size 24 i0 _ 1 24 Tryz.underlying66 hi hz0 hz1 hz2 rfl (by decide) _ tl.length (tl.map Prod.fst) rfl ((unhide HTR2).row.alloc _) ⟨w2.heap.size, 0, none⟩ 1 1 [.slice ua un uc] rfl rfl ?c1 ?c2 (by decide) ?c3 ?c4 ?c5 _ rfl ?_))
            case c1 => exact World.news_of_block (cs := #[.slice ua un uc]) (t := 24) (fr := (0, 0)) (World.alloc_heap_new _ _)
            case c2 => intro u hu; simp at hu; subst hu; rfl
            case c3 => unfold maxLen; omega
            case c4 => omega
            case c5 => simp; omega
            intro g8 cap8 w8 hown8 hg8 hat8 hlt8
            have HN8 : Hid (∃ (i' : Nat) (tl' : List (Value × List NE)), i' ≤ xks.length ∧ Value.int .i64 ((i : Int) + 1) = .int .i64 (i' : Int) ∧ TrAt w8 W1.heap.size (.slice (some ⟨g8, 0, none⟩) (tl.length + 1) cap8) tl' ∧ trN tl' = tsU l m i' ∧ Below W1.heap.size W1 w8) := by
              obtain ⟨h1, h2⟩ := (unhide HTR2).grown (unhide HU2) (unhide HBW2) (Nat.le_refl _) hg8 hown8
              exact ⟨i + 1, _, by omega, by simp, h1, by rw [unhide HTU, ← unhide HTN]; simp [trN, unhide HM2], h2⟩
            clear hown8 hg8 hat8 hlt8
            go_wp2
            exact ⟨unhide HN8, by simp [intOf]; omega⟩
          · rw [if_neg hy2] at htu
            have HTU := hide htu
            have ey2 : (yk == 2) = false := beq_eq_false_iff_ne.2 hy2
            clear htu hkr HLF HRC hlq
            go_wp2_with (first
        | (go_at_call 47
           refine (emptied_any _ _ _).mono ?_
           rw [HE]
           rintro e wE ⟨rfl, hwE⟩
           rw [hwE]
           clear hwE)
        | (go_at_call 48
           rw [unhide HWy]
           refine (one_any wy 1 ⟨yk, yt, yn, yks, yat⟩ qa qc).mono ?_
           rintro e w2 ⟨v2, rfl, hown2, hb2⟩
           obtain ⟨ug, uc, rfl, _⟩ := hown2.1.form (by simp)
           obtain ⟨ua, hua⟩ : ∃ ua, some (⟨ug, 0, none⟩ : Addr) = ua := ⟨_, rfl⟩
           obtain ⟨un, hun⟩ : ∃ un, ([⟨oneN 1 ⟨yk, yt, yn, yks, yat⟩, none, 0⟩] : List NE).length = un := ⟨_, rfl⟩
           rw [hua, hun] at hown2
           rw [hua, hun]
           clear hua hun
           have hb02 := (unhide HBy).trans (hb2.mono (unhide HBy).size)
           have HTR2 := hide ((unhide HTR).below hb02)
           have HBW2 := hide ((unhide HBR).trans (hb02.mono (unhide HBR).size))
           have HU2 := hide (hown2.mono' (B' := W1.heap.size) (by have h1 := (unhide HBy).size; have h2 := (unhide HBR).size; omega))
           have HM2 : Hid (([⟨oneN 1 ⟨yk, yt, yn, yks, yat⟩, none, 0⟩] : List NE).map NE.x = [oneN 1 ⟨yk, yt, yn, yks, yat⟩]) := rfl
           have hs2 := (unhide HBW2).size
           clear hown2 hb2 hb02)
        | (at_builtin
           refine wpList_append_lies _ rfl _ _ 66 rfl W1.heap.size 24 i0 _ 1 24 Tryz.underlying66 hi hz0 hz1 hz2 rfl (by decide) _ tl.length (tl.map Prod.fst) rfl ((unhide HTR2).row.alloc _) ⟨w2.heap.size, 0, none⟩ 1 1 [.slice ua un uc] rfl rfl ?c1 ?c2 (by decide) ?c3 ?c4 ?c5 _ rfl ?_))
            case c1 => exact World.news_of_block (cs := #[.slice ua un uc]) (t := 24) (fr := (0, 0)) (World.alloc_heap_new _ _)
            case c2 => intro u hu; simp at hu; subst hu; rfl
            case c3 => unfold maxLen; omega
            case c4 => omega
            case c5 => simp; omega
            intro g8 cap8 w8 hown8 hg8 hat8 hlt8
            have HN8 : Hid (∃ (i' : Nat) (tl' : List (Value × List NE)), i' ≤ xks.length ∧ Value.int .i64 ((i : Int) + 1) = .int .i64 (i' : Int) ∧ TrAt w8 W1.heap.size (.slice (some ⟨g8, 0, none⟩) (tl.length + 1) cap8) tl' ∧ trN tl' = tsU l m i' ∧ Below W1.heap.size W1 w8) := by
              obtain ⟨h1, h2⟩ := (unhide HTR2).grown (unhide HU2) (unhide HBW2) (Nat.le_refl _) hg8 hown8
              exact ⟨i + 1, _, by omega, by simp, h1, by rw [unhide HTU, ← unhide HTN]; simp [trN, unhide HM2], h2⟩
            clear hown8 hg8 hat8 hlt8
            go_wp2
            exact ⟨unhide HN8, by simp [intOf]; omega⟩
        | false =>
          rw [HE] at htu
          simp only [Bool.false_eq_true, if_false] at htu
          cases HQ : lq with
          | true =>
            rw [HQ] at htu HLF
            simp only [if_true, List.append_nil] at htu
            have HTU := hide htu
            clear htu hkr HRC hlq
            go_wp2_with (first
        | (go_at_call 47
           refine (emptied_any _ _ _).mono ?_
           rw [HE]
           rintro e wE ⟨rfl, hwE⟩
           rw [hwE]
           clear hwE)
        | (go_at_call 49
           rw [unhide HWy]
           refine (unhide HLF).mono ?_
           rintro e w3 ⟨rfl, hb3⟩
           have l3 := (unhide HBX w3 ((unhide HBR).trans (((unhide HBy).trans (hb3.mono (unhide HBy).size)).mono (unhide HBR).size))).2.1
           have l4 := (unhide HBX w3 ((unhide HBR).trans (((unhide HBy).trans (hb3.mono (unhide HBy).size)).mono (unhide HBR).size))).2.2.2.2.1
           have HB3 := hide ((unhide HBy).trans (hb3.mono (unhide HBy).size))
           clear hb3))
            have HN8 : Hid (∃ (i' : Nat) (tl' : List (Value × List NE)), i' ≤ xks.length ∧ Value.int .i64 ((i : Int) + 1) = .int .i64 (i' : Int) ∧ TrAt w3 W1.heap.size u6 tl' ∧ trN tl' = tsU l m i' ∧ Below W1.heap.size W1 w3) :=
              ⟨i + 1, tl, by omega, by simp, (unhide HTR).below (unhide HB3), by rw [unhide HTU]; exact unhide HTN, (unhide HBR).trans ((unhide HB3).mono (unhide HBR).size)⟩
            exact ⟨unhide HN8, by simp [intOf]; omega⟩
          | false =>
            rw [HQ] at htu HLF
            simp only [Bool.false_eq_true, if_false] at htu
            have HTU := hide htu
            have HREC := hide (unhide HRC ((hkr.2 HE).2 HQ))
            clear htu hkr HRC hlq
            go_wp2_with (first
        | (go_at_call 47
           refine (emptied_any _ _ _).mono ?_
           rw [HE]
           rintro e wE ⟨rfl, hwE⟩
           rw [hwE]
           clear hwE)
        | (go_at_call 49
           rw [unhide HWy]
           refine (unhide HLF).mono ?_
           rintro e w3 ⟨rfl, hb3⟩
           have l3 := (unhide HBX w3 ((unhide HBR).trans (((unhide HBy).trans (hb3.mono (unhide HBy).size)).mono (unhide HBR).size))).2.1
           have l4 := (unhide HBX w3 ((unhide HBR).trans (((unhide HBy).trans (hb3.mono (unhide HBy).size)).mono (unhide HBR).size))).2.2.2.2.1
           have HB3 := hide ((unhide HBy).trans (hb3.mono (unhide HBy).size))
           clear hb3)
        | (go_at_call 29
           refine (unhide HREC w3 (unhide HB3)).mono ?_
           rintro e w2 ⟨v2, es2, rfl, hmap2, hown2, hb2⟩
           obtain ⟨ug, uc, rfl, _⟩ := hown2.1.form (by have h1 := congrArg List.length hmap2; rw [List.length_map] at h1; rw [h1]; exact List.length_pos_iff.2 (unhide HNE))
           obtain ⟨ua, hua⟩ : ∃ ua, some (⟨ug, 0, none⟩ : Addr) = ua := ⟨_, rfl⟩
           obtain ⟨un, hun⟩ : ∃ un, es2.length = un := ⟨_, rfl⟩
           rw [hua, hun] at hown2
           rw [hua, hun]
           clear hua hun
           have hb02 := (unhide HB3).trans (hb2.mono (unhide HB3).size)
           have HTR2 := hide ((unhide HTR).below hb02)
           have HBW2 := hide ((unhide HBR).trans (hb02.mono (unhide HBR).size))
           have HU2 := hide (hown2.mono' (B' := W1.heap.size) (by have h1 := (unhide HB3).size; have h2 := (unhide HBR).size; omega))
           have HM2 := hide hmap2
           have hs2 := (unhide HBW2).size
           clear hown2 hb2 hb02 hmap2 l3 l4)
        | (at_builtin
           refine wpList_append_lies _ rfl _ _ 66 rfl W1.heap.size 24 i0 _ 1 24 Tryz.underlying66 hi hz0 hz1 hz2 rfl (by decide) _ tl.length (tl.map Prod.fst) rfl ((unhide HTR2).row.alloc _) ⟨w2.heap.size, 0, none⟩ 1 1 [.slice ua un uc] rfl rfl ?c1 ?c2 (by decide) ?c3 ?c4 ?c5 _ rfl ?_))
            case c1 => exact World.news_of_block (cs := #[.slice ua un uc]) (t := 24) (fr := (0, 0)) (World.alloc_heap_new _ _)
            case c2 => intro u hu; simp at hu; subst hu; rfl
            case c3 => unfold maxLen; omega
            case c4 => omega
            case c5 => simp; omega
            intro g8 cap8 w8 hown8 hg8 hat8 hlt8
            have HN8 : Hid (∃ (i' : Nat) (tl' : List (Value × List NE)), i' ≤ xks.length ∧ Value.int .i64 ((i : Int) + 1) = .int .i64 (i' : Int) ∧ TrAt w8 W1.heap.size (.slice (some ⟨g8, 0, none⟩) (tl.length + 1) cap8) tl' ∧ trN tl' = tsU l m i' ∧ Below W1.heap.size W1 w8) := by
              obtain ⟨h1, h2⟩ := (unhide HTR2).grown (unhide HU2) (unhide HBW2) (Nat.le_refl _) hg8 hown8
              exact ⟨i + 1, _, by omega, by simp, h1, by rw [unhide HTU, ← unhide HTN]; simp [trN, unhide HM2], h2⟩
            clear hown8 hg8 hat8 hlt8
            go_wp2
            exact ⟨unhide HN8, by simp [intOf]; omega⟩
      · have hlt' : ¬ (i : Int) < xks.length := by omega
        obtain rfl : i = xks.length := by omega
        have hkids : (nd l m).kids = xks := by rw [unhide HXX]
        have hsm := unhide HTSM
        have hSM := unhide HSM
        have htsn := unhide HTSN
        rw [hkids] at hsm hSM htsn
        rw [← htn] at hsm hSM htsn
        obtain ⟨ra, rc, hu6, hrc⟩ := htr.form
        subst hu6
        have htrees : TreesAt w0 w0.heap.size ra (tl.map Prod.fst) (trN tl) := htr.trees fun p hp => by
          have hm1 : p.2.map NE.x ∈ trN tl := List.mem_map_of_mem hp
          obtain ⟨h1, h2⟩ := hSM _ hm1
          exact ⟨by simpa using h1, fun e he => h2 e.x (List.mem_map_of_mem he)⟩
        have hmake := make_ref w0 w0.heap.size ⟨(66 : Int), xt, (2 : Int), xks, xat⟩ ka kc ra rc (tl.map Prod.fst) (trN tl) htrees (Nat.le_refl _) hsm (by rw [trN_len]; exact hrc) htsn
        rw [trN_len] at hmake
        have HMAKE := hide hmake
        have HLY : Hid (mkT ⟨(66 : Int), xt, (2 : Int), xks, xat⟩ (trN tl) = lay l m 0) := by show _ = _; rw [htn]; exact (unhide HLAY).symm
        have HBR := hide hBr
        clear hmake htrees hsm hSM htsn htr htn hBr bB br bx bN hkids
        go_wp2_with (go_at_call 50
                     refine (unhide HMAKE).mono ?_
                     rintro e w5 ⟨v5, es5, rfl, hmap5, hown5, hb5⟩
                     obtain ⟨g5, c5, rfl, _⟩ := hown5.1.form (by have h1 := congrArg List.length hmap5; rw [List.length_map] at h1; rw [h1]; simp [mkT])
                     obtain ⟨n5, hn5⟩ : ∃ n5, es5.length = n5 := ⟨_, rfl⟩
                     rw [hn5] at hown5
                     rw [hn5]
                     have hb15 := (unhide HBR).trans (hb5.mono (unhide HBR).size)
                     have hr5 := (unhide HBX w5 hb15).2.2.1
                     have cr5 : w5.cell? ⟨W.heap.size + 1, 0, none⟩ = some (.slice none 0 0) := (by rw [Lib.cell_of_heap hr5]; rfl)
                     have fr5 : w5.frozen? ⟨W.heap.size + 1, 0, none⟩ = false := rfrozen_at hr5 0
                     have lr5 := (unhide HBX w5 hb15).2.2.2.2.2.1
                     have HR5 := hide hr5
                     have HB15 := hide hb15
                     have HO5 := hide hown5
                     have HM5 := hide hmap5
                     have HS5 := hide hb5
                     clear hown5 hmap5 hb5 hn5 hb15 hr5)
        obtain ⟨w9, hw9⟩ : ∃ w9, w5.setCell ⟨W.heap.size + 1, 0, none⟩ (.slice (some ⟨g5, 0, none⟩) n5 c5) = w9 := ⟨_, rfl⟩
        have hrb9 : w9.heap[W.heap.size + 1]? = some (.cells #[.slice (some ⟨g5, 0, none⟩) n5 c5] 24) := by rw [← hw9]; exact setK (unhide HR5) 0 _
        have c9 : w9.cell? ⟨W.heap.size + 1, 0, none⟩ = some (.slice (some ⟨g5, 0, none⟩) n5 c5) := by rw [Lib.cell_of_heap hrb9]; rfl
        have hO9 : OwnN w9 W.heap.size (.slice (some ⟨g5, 0, none⟩) n5 c5) es5 := by rw [← hw9]; exact (unhide HO5).low (by omega) (by omega)
        have hB9 : Below W.heap.size W w9 := by rw [← hw9]; exact ((unhide HBX w5 (unhide HB15)).1).setCell (p := ⟨W.heap.size + 1, 0, none⟩) (by show W.heap.size ≤ W.heap.size + 1; omega) _
        rw [hw9]
        exact bodyPost_ret (v := .agg #[.slice (some ⟨g5, 0, none⟩) n5 c5]) (by simp [results, Tryz.results29, go_sem, c9]) rfl ⟨_, es5, rfl, (unhide HM5).trans (unhide HLY), hO9, hB9⟩
  · subst h66
    subst hn'
    have h2d : decide ((2 : Int) ≤ xn) = false := decide_eq_false h2
    go_enter Tryz.func29, Tryz.ntmps29
    go_wp2
    rw [unhide HW1]
    go_loopw [6, 7] (fun t6 t7 wr => ∃ (i : Nat) (tl : List (Value × List NE)), i ≤ xks.length ∧ t7 = .int .i64 (i : Int) ∧ TrAt wr W1.heap.size t6 tl ∧ trN tl = tsU l m i ∧ Below W1.heap.size W1 wr) (fun _ t7 _ => xks.length - (intOf t7).toNat)
    case atStart => exact ⟨0, [], Nat.zero_le _, rfl, ⟨World.ownsRow_nil _ _ _ _, fun p hp => (by cases hp)⟩, rfl, Below.refl _ _⟩
    case round =>
      obtain ⟨w0, hw0⟩ : ∃ w0, w0 = wr := ⟨_, rfl⟩
      subst hw0
      obtain ⟨i, tl, hil, rfl, htr, htn, hBr⟩ := hrel
      obtain ⟨bB, bv, br, bx, s1, s2, s3, bN⟩ := unhide HBX w0 hBr
      obtain ⟨x0, x1, x2, x3, x4⟩ := cells5 bx
      have hsr := hBr.size
      have htl : tl.length ≤ i := by
        have h1 : (trN tl).length = (tsU l m i).length := by rw [htn]
        rw [trN_len] at h1
        have : ∀ j, (tsU l m j).length ≤ j := by
          intro j
          induction j with
          | zero => exact Nat.le_refl _
          | succ j ih =>
            rw [tsU, List.length_append]
            split
            · simp; omega
            · split
              · simp; omega
              · simp; omega
        have := this i
        omega
      by_cases hlt : i < xks.length
      · have hlt' : (i : Int) < xks.length := by omega
        have hkids : (nd l m).kids = xks := by rw [unhide HXX]
        have hkind : (nd l m).kind = (66 : Int) := by rw [unhide HXX]
        have hmem : xks.getD i 0 ∈ (nd l m).kids := by rw [hkids, List.getD_eq_getElem?_getD, List.getElem?_eq_getElem hlt]; exact List.getElem_mem _
        obtain ⟨q, hq1, hqf, hq2, hq3⟩ := chain_kids _ _ _ (unhide HFI).chain _ hmem
        have hkr := kid_ref (unhide HC) hm (by rw [hkind]; exact unhide HAS) (unhide HOK) i (by rw [hkids]; exact hlt)
        have htu : tsU l m (i + 1) = tsU l m i ++ (if emptP (nd l m).kind i = true then [[oneN (if (nd l ((nd l m).kids.getD i 0).toNat).kind = 2 then 2 else 1) (nd l ((nd l m).kids.getD i 0).toNat)]] else if leftQ l ((nd l m).kids.getD i 0).toNat = true then [] else [lay l ((nd l m).kids.getD i 0).toNat 0]) := rfl
        rw [hkids, hkind, hq1, Int.toNat_natCast] at hkr htu
        have hql := hqf.1
        have hqle := hqf.le
        have hmle := (unhide HFI).le
        have hkln : xks.length ≤ l.length := by
          have : ∀ (ks : List Int) (next e : Nat), Chain l ks next e → ks.length ≤ e - next := by
            intro ks
            induction ks with
            | nil => intro next e _; simp
            | cons k ks ih =>
              intro next e h
              have h1 := ih _ _ h.2.2
              have h2 := h.2.1.le
              have h3 := chain_le _ _ _ h.2.2
              simp only [List.length_cons]
              omega
          have := this _ _ _ (unhide HFI).chain
          rw [hkids] at this
          omega
        rcases unhide HK with hK0 | ⟨kb, ko, hka, hkb, hkc0⟩
        · rw [hK0] at hlt; simp at hlt
        subst hka
        have dk : w0.cell? ⟨kb, ko + i, none⟩ = some (.int .i64 (q : Int)) := (bB.cell (p := ⟨kb, ko + i, none⟩) (by show kb < W.heap.size; omega)).trans ((hkc0 i hlt).trans (by rw [hq1]))
        have lkb : kb < w0.heap.size := by have := bB.size; omega
        have lbb : b < w0.heap.size := by have := bB.size; omega
        obtain ⟨b2, o2, cap2, qa, qc, hv2, _, _, _, q0, q1, q2, q3, q4, hqc, hqm, _⟩ := bN.at hql
        cases hv2
        obtain ⟨y, hy⟩ : ∃ y, nd l q = y := ⟨_, rfl⟩
        have HLQ : Hid (∀ w', Below w0.heap.size w0 w' → Calls Tryz.prog 49 #[.agg #[.slice (some ⟨b, o, none⟩) l.length cap], .int .i64 (q : Int)] w' fun e w'' => e = .returned (.bool (leftQ l q)) ∧ Below w'.heap.size w' w'') := fun w' h =>
          left_any w' M _ l q (bN.keep (h.mono (Nat.le_refl _)) (by have := bB.size; omega)) (by have h1 := bB.size; have h2 := h.size; omega) hql (unhide HC)
        have HRC : Hid (Ok2 l q → ∀ w', Below w0.heap.size w0 w' → Calls Tryz.prog 29 #[.agg #[.slice (some ⟨b, o, none⟩) l.length cap], .int .i64 (q : Int)] w' (StrQ l q w')) := fun hq w' h =>
          unhide HIH q w' hql (by omega) hq (bN.keep (h.mono (Nat.le_refl _)) (by have := bB.size; omega)) (by have h1 := bB.size; have h2 := h.size; omega)
        have HNE : Hid (lay l q 0 ≠ []) := (lay_in (unhide HC) _ q (Nat.le_refl _) hql 0).1
        rw [hy] at q0 q1 q2 q3 q4 hqc hkr htu
        obtain ⟨yk, yt, yn, yks, yat⟩ := y
        simp only at q0 q1 q2 q3 q4 hqc hkr htu
        obtain ⟨wy, hwy⟩ : ∃ wy, w0.alloc (.cells #[.int .i64 yk, .string yt, .int .i64 yn, .slice qa yks.length qc, .int .i64 yat] 41) = wy := ⟨_, rfl⟩
        have HBy : Hid (Below w0.heap.size w0 wy) := by show Below _ _ _; rw [← hwy]; exact (Below.refl _ w0).alloc (Nat.le_refl _) _
        have HLF := hide (unhide HLQ wy (unhide HBy))
        have HWy := hide hwy
        have HTR := hide htr
        have HTN := hide htn
        have HBR := hide hBr
        have hq0' : (q : Int) < l.length := by omega
        have hq00 : (0 : Int) ≤ (q : Int) := by omega
        obtain ⟨lq, hlq⟩ : ∃ lq, leftQ l q = lq := ⟨_, rfl⟩
        rw [hlq] at HLF htu hkr
        clear hwy htr htn hBr bB br bx bN hmem hkids hkind hqf hkc0 hy hq1 hq2 hq3 HLQ
        cases HE : emptP (66 : Int) (i : Int) with
        | true =>
          rw [HE] at htu
          simp only [if_true] at htu
          by_cases hy2 : yk = 2
          · rw [if_pos hy2] at htu
            subst hy2
            have HTU := hide htu
            clear htu hkr HLF HRC hlq
            go_wp2_with (first
        | (go_at_call 47
           refine (emptied_any _ _ _).mono ?_
           rw [HE]
           rintro e wE ⟨rfl, hwE⟩
           rw [hwE]
           clear hwE)
        | (go_at_call 48
           rw [unhide HWy]
           refine (one_any wy 2 ⟨2, yt, yn, yks, yat⟩ qa qc).mono ?_
           rintro e w2 ⟨v2, rfl, hown2, hb2⟩
           obtain ⟨ug, uc, rfl, _⟩ := hown2.1.form (by simp)
           obtain ⟨ua, hua⟩ : ∃ ua, some (⟨ug, 0, none⟩ : Addr) = ua := ⟨_, rfl⟩
           obtain ⟨un, hun⟩ : ∃ un, ([⟨oneN 2 ⟨2, yt, yn, yks, yat⟩, none, 0⟩] : List NE).length = un := ⟨_, rfl⟩
           rw [hua, hun] at hown2
           rw [hua, hun]
           clear hua hun
           have hb02 := (unhide HBy).trans (hb2.mono (unhide HBy).size)
           have HTR2 := hide ((unhide HTR).below hb02)
           have HBW2 := hide ((unhide HBR).trans (hb02.mono (unhide HBR).size))
           have HU2 := hide (hown2.mono' (B' := W1.heap.size) (by have h1 := (unhide HBy).size; have h2 := (unhide HBR).size; omega))
           have HM2 : Hid (([⟨oneN 2 ⟨2, yt, yn, yks, yat⟩, none, 0⟩] : List NE).map NE.x = [oneN 2 ⟨2, yt, yn, yks, yat⟩]) := rfl
           have hs2 := (unhide HBW2).size
           clear hown2 hb2 hb02)
        | (at_builtin
           refine wpList_append_lies _ rfl _ _ 66 rfl W1.heap.size 24 i0 _ 1 24 Tryz.underlying66 hi hz0 hz1 hz2 rfl (by decide) _ tl.length (tl.map Prod.fst) rfl ((unhide HTR2).row.alloc _) ⟨w2.heap.size, 0, none⟩ 1 1 [.slice ua un uc] rfl rfl ?c1 ?c2 (by decide) ?c3 ?c4 ?c5 _ rfl ?_))
            case c1 => exact World.news_of_block (cs := #[.slice ua un uc]) (t := 24) (fr := (0, 0)) (World.alloc_heap_new _ _)
            case c2 => intro u hu; simp at hu; subst hu; rfl
            case c3 => unfold maxLen; omega
            case c4 => omega
            case c5 => simp; omega
            intro g8 cap8 w8 hown8 hg8 hat8 hlt8
            have HN8 : Hid (∃ (i' : Nat) (tl' : List (Value × List NE)), i' ≤ xks.length ∧ Value.int .i64 ((i : Int) + 1) = .int .i64 (i' : Int) ∧ TrAt w8 W1.heap.size (.slice (some ⟨g8, 0, none⟩) (tl.length + 1) cap8) tl' ∧ trN tl' = tsU l m i' ∧ Below W1.heap.size W1 w8) := by
              obtain ⟨h1, h2⟩ := (unhide HTR2).grown (unhide HU2) (unhide HBW2) (Nat.le_refl _) hg8 hown8
              exact ⟨i + 1, _, by omega, by simp, h1, by rw [unhide HTU, ← unhide HTN]; simp [trN, unhide HM2], h2⟩
            clear hown8 hg8 hat8 hlt8
            go_wp2
            exact ⟨unhide HN8, by simp [intOf]; omega⟩
          · rw [if_neg hy2] at htu
            have HTU := hide htu
            have ey2 : (yk == 2) = false := beq_eq_false_iff_ne.2 hy2
            clear htu hkr HLF HRC hlq
            go_wp2_with (first
        | (go_at_call 47
           refine (emptied_any _ _ _).mono ?_
           rw [HE]
           rintro e wE ⟨rfl, hwE⟩
           rw [hwE]
           clear hwE)
        | (go_at_call 48
           rw [unhide HWy]
           refine (one_any wy 1 ⟨yk, yt, yn, yks, yat⟩ qa qc).mono ?_
           rintro e w2 ⟨v2, rfl, hown2, hb2⟩
           obtain ⟨ug, uc, rfl, _⟩ := hown2.1.form (by simp)
           obtain ⟨ua, hua⟩ : ∃ ua, some (⟨ug, 0, none⟩ : Addr) = ua := ⟨_, rfl⟩
           obtain ⟨un, hun⟩ : ∃ un, ([⟨oneN 1 ⟨yk, yt, yn, yks, yat⟩, none, 0⟩] : List NE).length = un := ⟨_, rfl⟩
           rw [hua, hun] at hown2
           rw [hua, hun]
           clear hua hun
           have hb02 := (unhide HBy).trans (hb2.mono (unhide HBy).size)
           have HTR2 := hide ((unhide HTR).below hb02)
           have HBW2 := hide ((unhide HBR).trans (hb02.mono (unhide HBR).size))
           have HU2 := hide (hown2.mono' (B' := W1.heap.size) (by have h1 := (unhide HBy).size; have h2 := (unhide HBR).size; omega))
           have HM2 : Hid (([⟨oneN 1 ⟨yk, yt, yn, yks, yat⟩, none, 0⟩] : List NE).map NE.x = [oneN 1 ⟨yk, yt, yn, yks, yat⟩]) := rfl
           have hs2 := (unhide HBW2).size
           clear hown2 hb2 hb02)
        | (at_builtin
           refine wpList_append_lies _ rfl _ _ 66 rfl W1.heap.size 24 i0 _ 1 24 Tryz.underlying66 hi hz0 hz1 hz2 rfl (by decide) _ tl.length (tl.map Prod.fst) rfl ((unhide HTR2).row.alloc _) ⟨w2.heap.size, 0, none⟩ 1 1 [.slice ua un uc] rfl rfl ?c1 ?c2 (by decide) ?c3 ?c4 ?c5 _ rfl ?_))
            case c1 => exact World.news_of_block (cs := #[.slice ua un uc]) (t := 24) (fr := (0, 0)) (World.alloc_heap_new _ _)
            case c2 => intro u hu; simp at hu; subst hu; rfl
            case c3 => unfold maxLen; omega
            case c4 => omega
            case c5 => simp; omega
            intro g8 cap8 w8 hown8 hg8 hat8 hlt8
            have HN8 : Hid (∃ (i' : Nat) (tl' : List (Value × List NE)), i' ≤ xks.length ∧ Value.int .i64 ((i : Int) + 1) = .int .i64 (i' : Int) ∧ TrAt w8 W1.heap.size (.slice (some ⟨g8, 0, none⟩) (tl.length + 1) cap8) tl' ∧ trN tl' = tsU l m i' ∧ Below W1.heap.size W1 w8) := by
              obtain ⟨h1, h2⟩ := (unhide HTR2).grown (unhide HU2) (unhide HBW2) (Nat.le_refl _) hg8 hown8
              exact ⟨i + 1, _, by omega, by simp, h1, by rw [unhide HTU, ← unhide HTN]; simp [trN, unhide HM2], h2⟩
            clear hown8 hg8 hat8 hlt8
            go_wp2
            exact ⟨unhide HN8, by simp [intOf]; omega⟩
        | false =>
          rw [HE] at htu
          simp only [Bool.false_eq_true, if_false] at htu
          cases HQ : lq with
          | true =>
            rw [HQ] at htu HLF
            simp only [if_true, List.append_nil] at htu
            have HTU := hide htu
            clear htu hkr HRC hlq
            go_wp2_with (first
        | (go_at_call 47
           refine (emptied_any _ _ _).mono ?_
           rw [HE]
           rintro e wE ⟨rfl, hwE⟩
           rw [hwE]
           clear hwE)
        | (go_at_call 49
           rw [unhide HWy]
           refine (unhide HLF).mono ?_
           rintro e w3 ⟨rfl, hb3⟩
           have l3 := (unhide HBX w3 ((unhide HBR).trans (((unhide HBy).trans (hb3.mono (unhide HBy).size)).mono (unhide HBR).size))).2.1
           have l4 := (unhide HBX w3 ((unhide HBR).trans (((unhide HBy).trans (hb3.mono (unhide HBy).size)).mono (unhide HBR).size))).2.2.2.2.1
           have HB3 := hide ((unhide HBy).trans (hb3.mono (unhide HBy).size))
           clear hb3))
            have HN8 : Hid (∃ (i' : Nat) (tl' : List (Value × List NE)), i' ≤ xks.length ∧ Value.int .i64 ((i : Int) + 1) = .int .i64 (i' : Int) ∧ TrAt w3 W1.heap.size u6 tl' ∧ trN tl' = tsU l m i' ∧ Below W1.heap.size W1 w3) :=
              ⟨i + 1, tl, by omega, by simp, (unhide HTR).below (unhide HB3), by rw [unhide HTU]; exact unhide HTN, (unhide HBR).trans ((unhide HB3).mono (unhide HBR).size)⟩
            exact ⟨unhide HN8, by simp [intOf]; omega⟩
          | false =>
            rw [HQ] at htu HLF
            simp only [Bool.false_eq_true, if_false] at htu
            have HTU := hide htu
            have HREC := hide (unhide HRC ((hkr.2 HE).2 HQ))
            clear htu hkr HRC hlq
            go_wp2_with (first
        | (go_at_call 47
           refine (emptied_any _ _ _).mono ?_
           rw [HE]
           rintro e wE ⟨rfl, hwE⟩
           rw [hwE]
           clear hwE)
        | (go_at_call 49
           rw [unhide HWy]
           refine (unhide HLF).mono ?_
           rintro e w3 ⟨rfl, hb3⟩
           have l3 := (unhide HBX w3 ((unhide HBR).trans (((unhide HBy).trans (hb3.mono (unhide HBy).size)).mono (unhide HBR).size))).2.1
           have l4 := (unhide HBX w3 ((unhide HBR).trans (((unhide HBy).trans (hb3.mono (unhide HBy).size)).mono (unhide HBR).size))).2.2.2.2.1
           have HB3 := hide ((unhide HBy).trans (hb3.mono (unhide HBy).size))
           clear hb3)
        | (go_at_call 29
           refine (unhide HREC w3 (unhide HB3)).mono ?_
           rintro e w2 ⟨v2, es2, rfl, hmap2, hown2, hb2⟩
           obtain ⟨ug, uc, rfl, _⟩ := hown2.1.form (by have h1 := congrArg List.length hmap2; rw [List.length_map] at h1; rw [h1]; exact List.length_pos_iff.2 (unhide HNE))
           obtain ⟨ua, hua⟩ : ∃ ua, some (⟨ug, 0, none⟩ : Addr) = ua := ⟨_, rfl⟩
           obtain ⟨un, hun⟩ : ∃ un, es2.length = un := ⟨_, rfl⟩
           rw [hua, hun] at hown2
           rw [hua, hun]
           clear hua hun
           have hb02 := (unhide HB3).trans (hb2.mono (unhide HB3).size)
           have HTR2 := hide ((unhide HTR).below hb02)
           have HBW2 := hide ((unhide HBR).trans (hb02.mono (unhide HBR).size))
           have HU2 := hide (hown2.mono' (B' := W1.heap.size) (by have h1 := (unhide HB3).size; have h2 := (unhide HBR).size; omega))
           have HM2 := hide hmap2
           have hs2 := (unhide HBW2).size
           clear hown2 hb2 hb02 hmap2 l3 l4)
        | (at_builtin
           refine wpList_append_lies _ rfl _ _ 66 rfl W1.heap.size 24 i0 _ 1 24 Tryz.underlying66 hi hz0 hz1 hz2 rfl (by decide) _ tl.length (tl.map Prod.fst) rfl ((unhide HTR2).row.alloc _) ⟨w2.heap.size, 0, none⟩ 1 1 [.slice ua un uc] rfl rfl ?c1 ?c2 (by decide) ?c3 ?c4 ?c5 _ rfl ?_))
            case c1 => exact World.news_of_block (cs := #[.slice ua un uc]) (t := 24) (fr := (0, 0)) (World.alloc_heap_new _ _)
            case c2 => intro u hu; simp at hu; subst hu; rfl
            case c3 => unfold maxLen; omega
            case c4 => omega
            case c5 => simp; omega
            intro g8 cap8 w8 hown8 hg8 hat8 hlt8
            have HN8 : Hid (∃ (i' : Nat) (tl' : List (Value × List NE)), i' ≤ xks.length ∧ Value.int .i64 ((i : Int) + 1) = .int .i64 (i' : Int) ∧ TrAt w8 W1.heap.size (.slice (some ⟨g8, 0, none⟩) (tl.length + 1) cap8) tl' ∧ trN tl' = tsU l m i' ∧ Below W1.heap.size W1 w8) := by
              obtain ⟨h1, h2⟩ := (unhide HTR2).grown (unhide HU2) (unhide HBW2) (Nat.le_refl _) hg8 hown8
              exact ⟨i + 1, _, by omega, by simp, h1, by rw [unhide HTU, ← unhide HTN]; simp [trN, unhide HM2], h2⟩
            clear hown8 hg8 hat8 hlt8
            go_wp2
            exact ⟨unhide HN8, by simp [intOf]; omega⟩
      · have hlt' : ¬ (i : Int) < xks.length := by omega
        obtain rfl : i = xks.length := by omega
        have hkids : (nd l m).kids = xks := by rw [unhide HXX]
        have hsm := unhide HTSM
        have hSM := unhide HSM
        have htsn := unhide HTSN
        rw [hkids] at hsm hSM htsn
        rw [← htn] at hsm hSM htsn
        obtain ⟨ra, rc, hu6, hrc⟩ := htr.form
        subst hu6
        have htrees : TreesAt w0 w0.heap.size ra (tl.map Prod.fst) (trN tl) := htr.trees fun p hp => by
          have hm1 : p.2.map NE.x ∈ trN tl := List.mem_map_of_mem hp
          obtain ⟨h1, h2⟩ := hSM _ hm1
          exact ⟨by simpa using h1, fun e he => h2 e.x (List.mem_map_of_mem he)⟩
        have hmake := make_ref w0 w0.heap.size ⟨(66 : Int), xt, (0 : Int), xks, xat⟩ ka kc ra rc (tl.map Prod.fst) (trN tl) htrees (Nat.le_refl _) hsm (by rw [trN_len]; exact hrc) htsn
        rw [trN_len] at hmake
        have HMAKE := hide hmake
        have HLY : Hid (mkT ⟨(66 : Int), xt, (0 : Int), xks, xat⟩ (trN tl) = lay l m 0) := by show _ = _; rw [htn]; exact (unhide HLAY).symm
        have HBR := hide hBr
        clear hmake htrees hsm hSM htsn htr htn hBr bB br bx bN hkids
        go_wp2_with (go_at_call 50
                     refine (unhide HMAKE).mono ?_
                     rintro e w5 ⟨v5, es5, rfl, hmap5, hown5, hb5⟩
                     obtain ⟨g5, c5, rfl, _⟩ := hown5.1.form (by have h1 := congrArg List.length hmap5; rw [List.length_map] at h1; rw [h1]; simp [mkT])
                     obtain ⟨n5, hn5⟩ : ∃ n5, es5.length = n5 := ⟨_, rfl⟩
                     rw [hn5] at hown5
                     rw [hn5]
                     have hb15 := (unhide HBR).trans (hb5.mono (unhide HBR).size)
                     have hr5 := (unhide HBX w5 hb15).2.2.1
                     have cr5 : w5.cell? ⟨W.heap.size + 1, 0, none⟩ = some (.slice none 0 0) := (by rw [Lib.cell_of_heap hr5]; rfl)
                     have fr5 : w5.frozen? ⟨W.heap.size + 1, 0, none⟩ = false := rfrozen_at hr5 0
                     have lr5 := (unhide HBX w5 hb15).2.2.2.2.2.1
                     have HR5 := hide hr5
                     have HB15 := hide hb15
                     have HO5 := hide hown5
                     have HM5 := hide hmap5
                     have HS5 := hide hb5
                     clear hown5 hmap5 hb5 hn5 hb15 hr5)
        obtain ⟨w9, hw9⟩ : ∃ w9, w5.setCell ⟨W.heap.size + 1, 0, none⟩ (.slice (some ⟨g5, 0, none⟩) n5 c5) = w9 := ⟨_, rfl⟩
        have hrb9 : w9.heap[W.heap.size + 1]? = some (.cells #[.slice (some ⟨g5, 0, none⟩) n5 c5] 24) := by rw [← hw9]; exact setK (unhide HR5) 0 _
        have c9 : w9.cell? ⟨W.heap.size + 1, 0, none⟩ = some (.slice (some ⟨g5, 0, none⟩) n5 c5) := by rw [Lib.cell_of_heap hrb9]; rfl
        have hO9 : OwnN w9 W.heap.size (.slice (some ⟨g5, 0, none⟩) n5 c5) es5 := by rw [← hw9]; exact (unhide HO5).low (by omega) (by omega)
        have hB9 : Below W.heap.size W w9 := by rw [← hw9]; exact ((unhide HBX w5 (unhide HB15)).1).setCell (p := ⟨W.heap.size + 1, 0, none⟩) (by show W.heap.size ≤ W.heap.size + 1; omega) _
        rw [hw9]
        exact bodyPost_ret (v := .agg #[.slice (some ⟨g5, 0, none⟩) n5 c5]) (by simp [results, Tryz.results29, go_sem, c9]) rfl ⟨_, es5, rfl, (unhide HM5).trans (unhide HLY), hO9, hB9⟩
  · have e44 : (xk == 44) = false := beq_eq_false_iff_ne.2 h44
    have e66 : (xk == 66) = false := beq_eq_false_iff_ne.2 h66
    subst hn'
    clear h44 h66
    go_enter Tryz.func29, Tryz.ntmps29
    go_wp2
    rw [unhide HW1]
    go_loopw [6, 7] (fun t6 t7 wr => ∃ (i : Nat) (tl : List (Value × List NE)), i ≤ xks.length ∧ t7 = .int .i64 (i : Int) ∧ TrAt wr W1.heap.size t6 tl ∧ trN tl = tsU l m i ∧ Below W1.heap.size W1 wr) (fun _ t7 _ => xks.length - (intOf t7).toNat)
    case atStart => exact ⟨0, [], Nat.zero_le _, rfl, ⟨World.ownsRow_nil _ _ _ _, fun p hp => (by cases hp)⟩, rfl, Below.refl _ _⟩
    case round =>
      obtain ⟨w0, hw0⟩ : ∃ w0, w0 = wr := ⟨_, rfl⟩
      subst hw0
      obtain ⟨i, tl, hil, rfl, htr, htn, hBr⟩ := hrel
      obtain ⟨bB, bv, br, bx, s1, s2, s3, bN⟩ := unhide HBX w0 hBr
      obtain ⟨x0, x1, x2, x3, x4⟩ := cells5 bx
      have hsr := hBr.size
      have htl : tl.length ≤ i := by
        have h1 : (trN tl).length = (tsU l m i).length := by rw [htn]
        rw [trN_len] at h1
        have : ∀ j, (tsU l m j).length ≤ j := by
          intro j
          induction j with
          | zero => exact Nat.le_refl _
          | succ j ih =>
            rw [tsU, List.length_append]
            split
            · simp; omega
            · split
              · simp; omega
              · simp; omega
        have := this i
        omega
      by_cases hlt : i < xks.length
      · have hlt' : (i : Int) < xks.length := by omega
        have hkids : (nd l m).kids = xks := by rw [unhide HXX]
        have hkind : (nd l m).kind = xk := by rw [unhide HXX]
        have hmem : xks.getD i 0 ∈ (nd l m).kids := by rw [hkids, List.getD_eq_getElem?_getD, List.getElem?_eq_getElem hlt]; exact List.getElem_mem _
        obtain ⟨q, hq1, hqf, hq2, hq3⟩ := chain_kids _ _ _ (unhide HFI).chain _ hmem
        have hkr := kid_ref (unhide HC) hm (by rw [hkind]; exact unhide HAS) (unhide HOK) i (by rw [hkids]; exact hlt)
        have htu : tsU l m (i + 1) = tsU l m i ++ (if emptP (nd l m).kind i = true then [[oneN (if (nd l ((nd l m).kids.getD i 0).toNat).kind = 2 then 2 else 1) (nd l ((nd l m).kids.getD i 0).toNat)]] else if leftQ l ((nd l m).kids.getD i 0).toNat = true then [] else [lay l ((nd l m).kids.getD i 0).toNat 0]) := rfl
        rw [hkids, hkind, hq1, Int.toNat_natCast] at hkr htu
        have hql := hqf.1
        have hqle := hqf.le
        have hmle := (unhide HFI).le
        have hkln : xks.length ≤ l.length := by
          have : ∀ (ks : List Int) (next e : Nat), Chain l ks next e → ks.length ≤ e - next := by
            intro ks
            induction ks with
            | nil => intro next e _; simp
            | cons k ks ih =>
              intro next e h
              have h1 := ih _ _ h.2.2
              have h2 := h.2.1.le
              have h3 := chain_le _ _ _ h.2.2
              simp only [List.length_cons]
              omega
          have := this _ _ _ (unhide HFI).chain
          rw [hkids] at this
          omega
        rcases unhide HK with hK0 | ⟨kb, ko, hka, hkb, hkc0⟩
        · rw [hK0] at hlt; simp at hlt
        subst hka
        have dk : w0.cell? ⟨kb, ko + i, none⟩ = some (.int .i64 (q : Int)) := (bB.cell (p := ⟨kb, ko + i, none⟩) (by show kb < W.heap.size; omega)).trans ((hkc0 i hlt).trans (by rw [hq1]))
        have lkb : kb < w0.heap.size := by have := bB.size; omega
        have lbb : b < w0.heap.size := by have := bB.size; omega
        obtain ⟨b2, o2, cap2, qa, qc, hv2, _, _, _, q0, q1, q2, q3, q4, hqc, hqm, _⟩ := bN.at hql
        cases hv2
        obtain ⟨y, hy⟩ : ∃ y, nd l q = y := ⟨_, rfl⟩
        have HLQ : Hid (∀ w', Below w0.heap.size w0 w' → Calls Tryz.prog 49 #[.agg #[.slice (some ⟨b, o, none⟩) l.length cap], .int .i64 (q : Int)] w' fun e w'' => e = .returned (.bool (leftQ l q)) ∧ Below w'.heap.size w' w'') := fun w' h =>
          left_any w' M _ l q (bN.keep (h.mono (Nat.le_refl _)) (by have := bB.size; omega)) (by have h1 := bB.size; have h2 := h.size; omega) hql (unhide HC)
        have HRC : Hid (Ok2 l q → ∀ w', Below w0.heap.size w0 w' → Calls Tryz.prog 29 #[.agg #[.slice (some ⟨b, o, none⟩) l.length cap], .int .i64 (q : Int)] w' (StrQ l q w')) := fun hq w' h =>
          unhide HIH q w' hql (by omega) hq (bN.keep (h.mono (Nat.le_refl _)) (by have := bB.size; omega)) (by have h1 := bB.size; have h2 := h.size; omega)
        have HNE : Hid (lay l q 0 ≠ []) := (lay_in (unhide HC) _ q (Nat.le_refl _) hql 0).1
        rw [hy] at q0 q1 q2 q3 q4 hqc hkr htu
        obtain ⟨yk, yt, yn, yks, yat⟩ := y
        simp only at q0 q1 q2 q3 q4 hqc hkr htu
        obtain ⟨wy, hwy⟩ : ∃ wy, w0.alloc (.cells #[.int .i64 yk, .string yt, .int .i64 yn, .slice qa yks.length qc, .int .i64 yat] 41) = wy := ⟨_, rfl⟩
        have HBy : Hid (Below w0.heap.size w0 wy) := by show Below _ _ _; rw [← hwy]; exact (Below.refl _ w0).alloc (Nat.le_refl _) _
        have HLF := hide (unhide HLQ wy (unhide HBy))
        have HWy := hide hwy
        have HTR := hide htr
        have HTN := hide htn
        have HBR := hide hBr
        have hq0' : (q : Int) < l.length := by omega
        have hq00 : (0 : Int) ≤ (q : Int) := by omega
        obtain ⟨lq, hlq⟩ : ∃ lq, leftQ l q = lq := ⟨_, rfl⟩
        rw [hlq] at HLF htu hkr
        clear hwy htr htn hBr bB br bx bN hmem hkids hkind hqf hkc0 hy hq1 hq2 hq3 HLQ
        cases HE : emptP xk (i : Int) with
        | true =>
          rw [HE] at htu
          simp only [if_true] at htu
          by_cases hy2 : yk = 2
          · rw [if_pos hy2] at htu
            subst hy2
            have HTU := hide htu
            clear htu hkr HLF HRC hlq
            go_wp2_with (first
        | (go_at_call 47
           refine (emptied_any _ _ _).mono ?_
           rw [HE]
           rintro e wE ⟨rfl, hwE⟩
           rw [hwE]
           clear hwE)
        | (go_at_call 48
           rw [unhide HWy]
           refine (one_any wy 2 ⟨2, yt, yn, yks, yat⟩ qa qc).mono ?_
           rintro e w2 ⟨v2, rfl, hown2, hb2⟩
           obtain ⟨ug, uc, rfl, _⟩ := hown2.1.form (by simp)
           obtain ⟨ua, hua⟩ : ∃ ua, some (⟨ug, 0, none⟩ : Addr) = ua := ⟨_, rfl⟩
           obtain ⟨un, hun⟩ : ∃ un, ([⟨oneN 2 ⟨2, yt, yn, yks, yat⟩, none, 0⟩] : List NE).length = un := ⟨_, rfl⟩
           rw [hua, hun] at hown2
           rw [hua, hun]
           clear hua hun
           have hb02 := (unhide HBy).trans (hb2.mono (unhide HBy).size)
           have HTR2 := hide ((unhide HTR).below hb02)
           have HBW2 := hide ((unhide HBR).trans (hb02.mono (unhide HBR).size))
           have HU2 := hide (hown2.mono' (B' := W1.heap.size) (by have h1 := (unhide HBy).size; have h2 := (unhide HBR).size; omega))
           have HM2 : Hid (([⟨oneN 2 ⟨2, yt, yn, yks, yat⟩, none, 0⟩] : List NE).map NE.x = [oneN 2 ⟨2, yt, yn, yks, yat⟩]) := rfl
           have hs2 := (unhide HBW2).size
           clear hown2 hb2 hb02)
        | (at_builtin
           refine wpList_append_lies _ rfl _ _ 66 rfl W1.heap.size 24 i0 _ 1 24 Tryz.underlying66 hi hz0 hz1 hz2 rfl (by decide) _ tl.length (tl.map Prod.fst) rfl ((unhide HTR2).row.alloc _) ⟨w2.heap.size, 0, none⟩ 1 1 [.slice ua un uc] rfl rfl ?c1 ?c2 (by decide) ?c3 ?c4 ?c5 _ rfl ?_))
            case c1 => exact World.news_of_block (cs := #[.slice ua un uc]) (t := 24) (fr := (0, 0)) (World.alloc_heap_new _ _)
            case c2 => intro u hu; simp at hu; subst hu; rfl
            case c3 => unfold maxLen; omega
            case c4 => omega
            case c5 => simp; omega
            intro g8 cap8 w8 hown8 hg8 hat8 hlt8
            have HN8 : Hid (∃ (i' : Nat) (tl' : List (Value × List NE)), i' ≤ xks.length ∧ Value.int .i64 ((i : Int) + 1) = .int .i64 (i' : Int) ∧ TrAt w8 W1.heap.size (.slice (some ⟨g8, 0, none⟩) (tl.length + 1) cap8) tl' ∧ trN tl' = tsU l m i' ∧ Below W1.heap.size W1 w8) := by
              obtain ⟨h1, h2⟩ := (unhide HTR2).grown (unhide HU2) (unhide HBW2) (Nat.le_refl _) hg8 hown8
              exact ⟨i + 1, _, by omega, by simp, h1, by rw [unhide HTU, ← unhide HTN]; simp [trN, unhide HM2], h2⟩
            clear hown8 hg8 hat8 hlt8
            go_wp2
            exact ⟨unhide HN8, by simp [intOf]; omega⟩
          · rw [if_neg hy2] at htu
            have HTU := hide htu
            have ey2 : (yk == 2) = false := beq_eq_false_iff_ne.2 hy2
            clear htu hkr HLF HRC hlq
            go_wp2_with (first
        | (go_at_call 47
           refine (emptied_any _ _ _).mono ?_
           rw [HE]
           rintro e wE ⟨rfl, hwE⟩
           rw [hwE]
           clear hwE)
        | (go_at_call 48
           rw [unhide HWy]
           refine (one_any wy 1 ⟨yk, yt, yn, yks, yat⟩ qa qc).mono ?_
           rintro e w2 ⟨v2, rfl, hown2, hb2⟩
           obtain ⟨ug, uc, rfl, _⟩ := hown2.1.form (by simp)
           obtain ⟨ua, hua⟩ : ∃ ua, some (⟨ug, 0, none⟩ : Addr) = ua := ⟨_, rfl⟩
           obtain ⟨un, hun⟩ : ∃ un, ([⟨oneN 1 ⟨yk, yt, yn, yks, yat⟩, none, 0⟩] : List NE).length = un := ⟨_, rfl⟩
           rw [hua, hun] at hown2
           rw [hua, hun]
           clear hua hun
           have hb02 := (unhide HBy).trans (hb2.mono (unhide HBy).size)
           have HTR2 := hide ((unhide HTR).below hb02)
           have HBW2 := hide ((unhide HBR).trans (hb02.mono (unhide HBR).size))
           have HU2 := hide (hown2.mono' (B' := W1.heap.size) (by have h1 := (unhide HBy).size; have h2 := (unhide HBR).size; omega))
           have HM2 : Hid (([⟨oneN 1 ⟨yk, yt, yn, yks, yat⟩, none, 0⟩] : List NE).map NE.x = [oneN 1 ⟨yk, yt, yn, yks, yat⟩]) := rfl
           have hs2 := (unhide HBW2).size
           clear hown2 hb2 hb02)
        | (at_builtin
           refine wpList_append_lies _ rfl _ _ 66 rfl W1.heap.size 24 i0 _ 1 24 Tryz.underlying66 hi hz0 hz1 hz2 rfl (by decide) _ tl.length (tl.map Prod.fst) rfl ((unhide HTR2).row.alloc _) ⟨w2.heap.size, 0, none⟩ 1 1 [.slice ua un uc] rfl rfl ?c1 ?c2 (by decide) ?c3 ?c4 ?c5 _ rfl ?_))
            case c1 => exact World.news_of_block (cs := #[.slice ua un uc]) (t := 24) (fr := (0, 0)) (World.alloc_heap_new _ _)
            case c2 => intro u hu; simp at hu; subst hu; rfl
            case c3 => unfold maxLen; omega
            case c4 => omega
            case c5 => simp; omega
            intro g8 cap8 w8 hown8 hg8 hat8 hlt8
            have HN8 : Hid (∃ (i' : Nat) (tl' : List (Value × List NE)), i' ≤ xks.length ∧ Value.int .i64 ((i : Int) + 1) = .int .i64 (i' : Int) ∧ TrAt w8 W1.heap.size (.slice (some ⟨g8, 0, none⟩) (tl.length + 1) cap8) tl' ∧ trN tl' = tsU l m i' ∧ Below W1.heap.size W1 w8) := by
              obtain ⟨h1, h2⟩ := (unhide HTR2).grown (unhide HU2) (unhide HBW2) (Nat.le_refl _) hg8 hown8
              exact ⟨i + 1, _, by omega, by simp, h1, by rw [unhide HTU, ← unhide HTN]; simp [trN, unhide HM2], h2⟩
            clear hown8 hg8 hat8 hlt8
            go_wp2
            exact ⟨unhide HN8, by simp [intOf]; omega⟩
        | false =>
          rw [HE] at htu
          simp only [Bool.false_eq_true, if_false] at htu
          cases HQ : lq with
          | true =>
            rw [HQ] at htu HLF
            simp only [if_true, List.append_nil] at htu
            have HTU := hide htu
            clear htu hkr HRC hlq
            go_wp2_with (first
        | (go_at_call 47
           refine (emptied_any _ _ _).mono ?_
           rw [HE]
           rintro e wE ⟨rfl, hwE⟩
           rw [hwE]
           clear hwE)
        | (go_at_call 49
           rw [unhide HWy]
           refine (unhide HLF).mono ?_
           rintro e w3 ⟨rfl, hb3⟩
           have l3 := (unhide HBX w3 ((unhide HBR).trans (((unhide HBy).trans (hb3.mono (unhide HBy).size)).mono (unhide HBR).size))).2.1
           have l4 := (unhide HBX w3 ((unhide HBR).trans (((unhide HBy).trans (hb3.mono (unhide HBy).size)).mono (unhide HBR).size))).2.2.2.2.1
           have HB3 := hide ((unhide HBy).trans (hb3.mono (unhide HBy).size))
           clear hb3))
            have HN8 : Hid (∃ (i' : Nat) (tl' : List (Value × List NE)), i' ≤ xks.length ∧ Value.int .i64 ((i : Int) + 1) = .int .i64 (i' : Int) ∧ TrAt w3 W1.heap.size u6 tl' ∧ trN tl' = tsU l m i' ∧ Below W1.heap.size W1 w3) :=
              ⟨i + 1, tl, by omega, by simp, (unhide HTR).below (unhide HB3), by rw [unhide HTU]; exact unhide HTN, (unhide HBR).trans ((unhide HB3).mono (unhide HBR).size)⟩
            exact ⟨unhide HN8, by simp [intOf]; omega⟩
          | false =>
            rw [HQ] at htu HLF
            simp only [Bool.false_eq_true, if_false] at htu
            have HTU := hide htu
            have HREC := hide (unhide HRC ((hkr.2 HE).2 HQ))
            clear htu hkr HRC hlq
            go_wp2_with (first
        | (go_at_call 47
           refine (emptied_any _ _ _).mono ?_
           rw [HE]
           rintro e wE ⟨rfl, hwE⟩
           rw [hwE]
           clear hwE)
        | (go_at_call 49
           rw [unhide HWy]
           refine (unhide HLF).mono ?_
           rintro e w3 ⟨rfl, hb3⟩
           have l3 := (unhide HBX w3 ((unhide HBR).trans (((unhide HBy).trans (hb3.mono (unhide HBy).size)).mono (unhide HBR).size))).2.1
           have l4 := (unhide HBX w3 ((unhide HBR).trans (((unhide HBy).trans (hb3.mono (unhide HBy).size)).mono (unhide HBR).size))).2.2.2.2.1
           have HB3 := hide ((unhide HBy).trans (hb3.mono (unhide HBy).size))
           clear hb3)
        | (go_at_call 29
           refine (unhide HREC w3 (unhide HB3)).mono ?_
           rintro e w2 ⟨v2, es2, rfl, hmap2, hown2, hb2⟩
           obtain ⟨ug, uc, rfl, _⟩ := hown2.1.form (by have h1 := congrArg List.length hmap2; rw [List.length_map] at h1; rw [h1]; exact List.length_pos_iff.2 (unhide HNE))
           obtain ⟨ua, hua⟩ : ∃ ua, some (⟨ug, 0, none⟩ : Addr) = ua := ⟨_, rfl⟩
           obtain ⟨un, hun⟩ : ∃ un, es2.length = un := ⟨_, rfl⟩
           rw [hua, hun] at hown2
           rw [hua, hun]
           clear hua hun
           have hb02 := (unhide HB3).trans (hb2.mono (unhide HB3).size)
           have HTR2 := hide ((unhide HTR).below hb02)
           have HBW2 := hide ((unhide HBR).trans (hb02.mono (unhide HBR).size))
           have HU2 := hide (hown2.mono' (B' := W1.heap.size) (by have h1 := (unhide HB3).size; have h2 := (unhide HBR).size; omega))
           have HM2 := hide hmap2
           have hs2 := (unhide HBW2).size
           clear hown2 hb2 hb02 hmap2 l3 l4)
        | (at_builtin
           refine wpList_append_lies _ rfl _ _ 66 rfl W1.heap.size 24 i0 _ 1 24 Tryz.underlying66 hi hz0 hz1 hz2 rfl (by decide) _ tl.length (tl.map Prod.fst) rfl ((unhide HTR2).row.alloc _) ⟨w2.heap.size, 0, none⟩ 1 1 [.slice ua un uc] rfl rfl ?c1 ?c2 (by decide) ?c3 ?c4 ?c5 _ rfl ?_))
            case c1 => exact World.news_of_block (cs := #[.slice ua un uc]) (t := 24) (fr := (0, 0)) (World.alloc_heap_new _ _)
            case c2 => intro u hu; simp at hu; subst hu; rfl
            case c3 => unfold maxLen; omega
            case c4 => omega
            case c5 => simp; omega
            intro g8 cap8 w8 hown8 hg8 hat8 hlt8
            have HN8 : Hid (∃ (i' : Nat) (tl' : List (Value × List NE)), i' ≤ xks.length ∧ Value.int .i64 ((i : Int) + 1) = .int .i64 (i' : Int) ∧ TrAt w8 W1.heap.size (.slice (some ⟨g8, 0, none⟩) (tl.length + 1) cap8) tl' ∧ trN tl' = tsU l m i' ∧ Below W1.heap.size W1 w8) := by
              obtain ⟨h1, h2⟩ := (unhide HTR2).grown (unhide HU2) (unhide HBW2) (Nat.le_refl _) hg8 hown8
              exact ⟨i + 1, _, by omega, by simp, h1, by rw [unhide HTU, ← unhide HTN]; simp [trN, unhide HM2], h2⟩
            clear hown8 hg8 hat8 hlt8
            go_wp2
            exact ⟨unhide HN8, by simp [intOf]; omega⟩
      · have hlt' : ¬ (i : Int) < xks.length := by omega
        obtain rfl : i = xks.length := by omega
        have hkids : (nd l m).kids = xks := by rw [unhide HXX]
        have hsm := unhide HTSM
        have hSM := unhide HSM
        have htsn := unhide HTSN
        rw [hkids] at hsm hSM htsn
        rw [← htn] at hsm hSM htsn
        obtain ⟨ra, rc, hu6, hrc⟩ := htr.form
        subst hu6
        have htrees : TreesAt w0 w0.heap.size ra (tl.map Prod.fst) (trN tl) := htr.trees fun p hp => by
          have hm1 : p.2.map NE.x ∈ trN tl := List.mem_map_of_mem hp
          obtain ⟨h1, h2⟩ := hSM _ hm1
          exact ⟨by simpa using h1, fun e he => h2 e.x (List.mem_map_of_mem he)⟩
        have hmake := make_ref w0 w0.heap.size ⟨xk, xt, nm', xks, xat⟩ ka kc ra rc (tl.map Prod.fst) (trN tl) htrees (Nat.le_refl _) hsm (by rw [trN_len]; exact hrc) htsn
        rw [trN_len] at hmake
        have HMAKE := hide hmake
        have HLY : Hid (mkT ⟨xk, xt, nm', xks, xat⟩ (trN tl) = lay l m 0) := by show _ = _; rw [htn]; exact (unhide HLAY).symm
        have HBR := hide hBr
        clear hmake htrees hsm hSM htsn htr htn hBr bB br bx bN hkids
        go_wp2_with (go_at_call 50
                     refine (unhide HMAKE).mono ?_
                     rintro e w5 ⟨v5, es5, rfl, hmap5, hown5, hb5⟩
                     obtain ⟨g5, c5, rfl, _⟩ := hown5.1.form (by have h1 := congrArg List.length hmap5; rw [List.length_map] at h1; rw [h1]; simp [mkT])
                     obtain ⟨n5, hn5⟩ : ∃ n5, es5.length = n5 := ⟨_, rfl⟩
                     rw [hn5] at hown5
                     rw [hn5]
                     have hb15 := (unhide HBR).trans (hb5.mono (unhide HBR).size)
                     have hr5 := (unhide HBX w5 hb15).2.2.1
                     have cr5 : w5.cell? ⟨W.heap.size + 1, 0, none⟩ = some (.slice none 0 0) := (by rw [Lib.cell_of_heap hr5]; rfl)
                     have fr5 : w5.frozen? ⟨W.heap.size + 1, 0, none⟩ = false := rfrozen_at hr5 0
                     have lr5 := (unhide HBX w5 hb15).2.2.2.2.2.1
                     have HR5 := hide hr5
                     have HB15 := hide hb15
                     have HO5 := hide hown5
                     have HM5 := hide hmap5
                     have HS5 := hide hb5
                     clear hown5 hmap5 hb5 hn5 hb15 hr5)
        obtain ⟨w9, hw9⟩ : ∃ w9, w5.setCell ⟨W.heap.size + 1, 0, none⟩ (.slice (some ⟨g5, 0, none⟩) n5 c5) = w9 := ⟨_, rfl⟩
        have hrb9 : w9.heap[W.heap.size + 1]? = some (.cells #[.slice (some ⟨g5, 0, none⟩) n5 c5] 24) := by rw [← hw9]; exact setK (unhide HR5) 0 _
        have c9 : w9.cell? ⟨W.heap.size + 1, 0, none⟩ = some (.slice (some ⟨g5, 0, none⟩) n5 c5) := by rw [Lib.cell_of_heap hrb9]; rfl
        have hO9 : OwnN w9 W.heap.size (.slice (some ⟨g5, 0, none⟩) n5 c5) es5 := by rw [← hw9]; exact (unhide HO5).low (by omega) (by omega)
        have hB9 : Below W.heap.size W w9 := by rw [← hw9]; exact ((unhide HBX w5 (unhide HB15)).1).setCell (p := ⟨W.heap.size + 1, 0, none⟩) (by show W.heap.size ≤ W.heap.size + 1; omega) _
        rw [hw9]
        exact bodyPost_ret (v := .agg #[.slice (some ⟨g5, 0, none⟩) n5 c5]) (by simp [results, Tryz.results29, go_sem, c9]) rfl ⟨_, es5, rfl, (unhide HM5).trans (unhide HLY), hO9, hB9⟩

set_option maxRecDepth 100000 in
set_option maxHeartbeats 8000000 in
theorem stripped_any {l : List Nd} (hc : (chkP l).2 = 0) (hl : l.length ≤ 100000) (hts : ∀ x ∈ l, x.text.size ≤ 1048576) (M : Nat) (v : Value) : ∀ (d n : Nat), en l n - n ≤ d → n < l.length → Ok2 l n → ∀ (W : World), Nodes W M v l → M ≤ W.heap.size → Calls Tryz.prog 29 #[.agg #[v], .int .i64 (n : Int)] W (StrQ l n W)
  | 0, n, hd, hn, hok, W, hN, hM => by have := (chk_all hc hn).le; omega
  | d + 1, n, hd, hn, hok, W, hN, hM => by
    by_cases has : (nd l n).kind = 33 ∨ (nd l n).kind = 34
    · have hf := chk_all hc hn
      have hfl := hf.le
      have h1 := about_in hc hn has
      have h0 := about_kid hf.fit has
      have hk1 := kid_first hf h0
      have hok1 : Ok2 l (n + 1) := by
        refine Ok2.expr ?_
        have h2 : plOf 92 l ((nd l n).kids.getD 0 0).toNat = true := by
          rcases has with h | h
          · exact kz_head (fit_kz hf.fit (by rw [h]; rfl) rfl)
          · exact kz_head (fit_kz hf.fit (by rw [h]; rfl) rfl)
        rw [hk1] at h2
        exact h2
      have hen : en l (n + 1) ≤ en l n := by
        have hm : (nd l n).kids.getD 0 0 ∈ (nd l n).kids := by rw [List.getD_eq_getElem?_getD, List.getElem?_eq_getElem h0]; exact List.getElem_mem _
        obtain ⟨q, e1, _, _, e4⟩ := chain_kids _ _ _ hf.chain _ hm
        have hq : q = n + 1 := by omega
        subst hq
        exact e4
      have hlay : lay l n 0 = lay l (n + 1) 0 := by rw [lay_inn hc hn, lay_inn hc h1, inn_go hn has]
      have HIH : Hid (∀ w', Below W.heap.size W w' → Calls Tryz.prog 29 #[.agg #[v], .int .i64 ((n + 1 : Nat) : Int)] w' (StrQ l (n + 1) w')) := fun w' h =>
        stripped_any hc hl hts M v d (n + 1) (by omega) h1 hok1 w' (hN.keep h hM) (Nat.le_trans hM h.size)
      have HNE : Hid (lay l (n + 1) 0 ≠ []) := (lay_in hc _ (n + 1) (Nat.le_refl _) h1 0).1
      obtain ⟨q, hq⟩ : ∃ q, n + 1 = q := ⟨_, rfl⟩
      rw [hq] at HIH HNE hlay hk1
      have hl1 := hN.1
      obtain ⟨b, o, cap, ka, kc, rfl, hc1, hc2, hb, d0, d1, d2, d3, d4, hkc, hkm, hK⟩ := hN.at hn
      rcases hK with h | ⟨kb, ko, rfl, hkb, hkc0⟩
      · rw [h] at h0; simp at h0
      have dk := hkc0 0 h0
      rw [hk1, Nat.add_zero] at dk
      have t1 : (n : Int) < l.length := by omega
      have t2 : (0 : Int) ≤ (n : Int) := by omega
      have t3 : b < W.heap.size := by omega
      have t4 : kb < W.heap.size := by omega
      obtain ⟨x, hx⟩ : ∃ x, nd l n = x := ⟨_, rfl⟩
      rw [hx] at d0 d1 d2 d3 d4 h0 has
      have t5 : (0 : Int) < (x.kids.length : Int) := by omega
      obtain ⟨W1, hW1⟩ : ∃ W1, ((W.alloc (.cells #[.slice (some ⟨b, o, none⟩) l.length cap] 24)).alloc (.cells #[.slice none 0 0] 24)).alloc (.cells #[.int .i64 x.kind, .string x.text, .int .i64 x.num, .slice (some ⟨kb, ko, none⟩) x.kids.length kc, .int .i64 x.at'] 41) = W1 := ⟨_, rfl⟩
      obtain ⟨hBx, hzW1⟩ := bx3_of (x := x) hN hM hW1
      have HBX := hide hBx
      have HZ1 := hide hzW1
      have HW1 := hide hW1
      have HLAY := hide hlay
      have HDK := hide dk
      have hB0 := (hBx W1 (Below.refl _ _)).1
      have HC : Hid (∀ w', Below W1.heap.size W1 w' → Below W.heap.size W w' ∧ w'.cell? ⟨W.heap.size, 0, none⟩ = some (.slice (some ⟨b, o, none⟩) l.length cap) ∧ w'.cell? ⟨W.heap.size + 1 + 1, 3, none⟩ = some (.slice (some ⟨kb, ko, none⟩) x.kids.length kc) ∧ w'.cell? ⟨kb, ko, none⟩ = some (.int .i64 (q : Int)) ∧ W.heap.size < w'.heap.size ∧ W.heap.size + 1 + 1 < w'.heap.size ∧ kb < w'.heap.size ∧ w'.heap[W.heap.size + 1]? = some (.cells #[.slice none 0 0] 24)) := fun w' hw => by
        obtain ⟨a1, a2, a3, a4, a5, a6, a7, a8⟩ := unhide HBX w' hw
        exact ⟨a1, a2, by rw [Lib.cell_of_heap a4]; rfl, (a1.cell (p := ⟨kb, ko, none⟩) t4).trans (unhide HDK), a5, a7, by have := a1.size; omega, a3⟩
      obtain ⟨_, c1, c2, c3, c4, c5, c6, c7⟩ := unhide HC W1 (Below.refl _ _)
      have hkind : (x.kind == 33) = true ∨ ((x.kind == 33) = false ∧ (x.kind == 34) = true) := by
        rcases has with h | h
        · exact .inl (by rw [h]; rfl)
        · exact .inr ⟨by rw [h]; rfl, by rw [h]; rfl⟩
      clear hN hf hfl hok hok1 hen hlay hkc0 dk hx hBx hzW1 hW1 hk1 hB0 hc hts has hq
      rcases hkind with e33 | ⟨e33, e34⟩
      all_goals (
        go_enter Tryz.func29, Tryz.ntmps29
        go_wp2
        rw [unhide HW1]
        go_region_law (first
          | (go_simp
             go_at_call 29
             refine (unhide HIH _ (unhide HC _ (Below.refl _ W1).drew).1).mono ?_
             rintro e w2 ⟨v2, es2, rfl, hmap2, hown2, hb2⟩
             have hb12 : Below W1.heap.size W1 w2 := (Below.refl _ W1).drew.trans hb2
             obtain ⟨ug, uc, rfl, _⟩ := hown2.1.form (by have h1 := congrArg List.length hmap2; rw [List.length_map] at h1; rw [h1]; exact List.length_pos_iff.2 (unhide HNE))
             obtain ⟨n5, hn5⟩ : ∃ n5, es2.length = n5 := ⟨_, rfl⟩
             rw [hn5] at hown2
             rw [hn5]
             have hr5 := (unhide HC w2 hb12).2.2.2.2.2.2.2
             have cr5 : w2.cell? ⟨W.heap.size + 1, 0, none⟩ = some (.slice none 0 0) := (by rw [Lib.cell_of_heap hr5]; rfl)
             have fr5 : w2.frozen? ⟨W.heap.size + 1, 0, none⟩ = false := rfrozen_at hr5 0
             have lr5 : W.heap.size + 1 < w2.heap.size := (Array.getElem?_eq_some_iff.1 hr5).1
             have HR5 := hide hr5
             have HB12 := hide hb12
             have HO5 := hide hown2
             have HM5 := hide hmap2
             clear hown2 hmap2 hb2 hn5 hb12 hr5))
        all_goals (
          obtain ⟨w9, hw9⟩ : ∃ w9, w2.setCell ⟨W.heap.size + 1, 0, none⟩ (.slice (some ⟨ug, 0, none⟩) n5 uc) = w9 := ⟨_, rfl⟩
          have hrb9 : w9.heap[W.heap.size + 1]? = some (.cells #[.slice (some ⟨ug, 0, none⟩) n5 uc] 24) := by rw [← hw9]; exact setK (unhide HR5) 0 _
          have c9 : w9.cell? ⟨W.heap.size + 1, 0, none⟩ = some (.slice (some ⟨ug, 0, none⟩) n5 uc) := by rw [Lib.cell_of_heap hrb9]; rfl
          have hO9 : OwnN w9 W.heap.size (.slice (some ⟨ug, 0, none⟩) n5 uc) es2 := by rw [← hw9]; exact OwnN.low (unhide HO5) (by have := unhide HZ1; simp; omega) (by have := unhide HZ1; simp; omega)
          have hB9 : Below W.heap.size W w9 := by rw [← hw9]; exact ((unhide HC w2 (unhide HB12)).1).setCell (p := ⟨W.heap.size + 1, 0, none⟩) (by show W.heap.size ≤ W.heap.size + 1; omega) _
          rw [hw9]
          go_wp2
          exact bodyPost_ret (v := .agg #[.slice (some ⟨ug, 0, none⟩) n5 uc]) (by simp [results, Tryz.results29, go_sem, c9]) rfl ⟨_, es2, rfl, (unhide HM5).trans (unhide HLAY).symm, hO9, hB9⟩))
    · exact stripped_main hc hl hts M v n hn has hok (fun q W' h1 h2 h3 h4 h5 => stripped_any hc hl hts M v d q (by omega) h1 h3 W' h4 h5) W hN hM
end Go.Proofs.YtnnpkomedpjlcaaGreatDoor

/- shucklaw5.spoil in general: rows of kids that are whole, apart from each other. -/
namespace Go.Proofs.YtnnpkomedpjlcaaGreatDoor
set_option linter.unusedSimpArgs false
set_option linter.unusedVariables false
open Go.RowKit Go.Shelf

/-- Kids in rows apart, node by node. -/
def KidPw (es : List NE) : Prop := es.Pairwise fun e f => ∀ kb, e.x.kids ≠ [] → f.x.kids ≠ [] → e.a = some ⟨kb, 0, none⟩ → f.a ≠ some ⟨kb, 0, none⟩
/-- Nothing has turned but blocks from B up to H, and new ones. -/
structure Out (B H : Nat) (W w' : World) : Prop where
  os : w'.os = W.os
  tape : w'.tape = W.tape
  output : w'.output = W.output
  size : W.heap.size ≤ w'.heap.size
  block : ∀ k, k < W.heap.size → k < B ∨ H ≤ k → w'.heap[k]? = W.heap[k]?
theorem Out.refl (B H : Nat) (W : World) : Out B H W W := ⟨rfl, rfl, rfl, Nat.le_refl _, fun _ _ _ => rfl⟩
theorem Out.trans {B H : Nat} {W w1 w2 : World} (h : Out B H W w1) (k : Out B H w1 w2) : Out B H W w2 :=
  ⟨k.os.trans h.os, k.tape.trans h.tape, k.output.trans h.output, Nat.le_trans h.size k.size, fun j hj hb => (k.block j (by have := h.size; omega) hb).trans (h.block j hj hb)⟩
theorem Out.alloc {B H : Nat} {W w1 : World} (h : Out B H W w1) (o : Obj) : Out B H W (w1.alloc o) :=
  ⟨h.os, h.tape, h.output, by have := h.size; simp; omega, fun j hj hb => (Below.heap_alloc _ _ _ (by have := h.size; omega)).trans (h.block j hj hb)⟩
theorem Out.grown {B H : Nat} {W w1 w2 : World} {row : Option Nat} (h : Out B H W w1) (hg : w1.grownBy w2 row) (hr : ∀ k, row = some k → k < W.heap.size → B ≤ k ∧ k < H) : Out B H W w2 :=
  ⟨hg.os.trans h.os, hg.tape.trans h.tape, hg.output.trans h.output, Nat.le_trans h.size hg.size, fun j hj hb => (hg.block j (by have := h.size; omega) (fun e => by have := hr j e.symm hj; omega)).trans (h.block j hj hb)⟩
theorem Out.setCell {B H : Nat} {W w1 : World} (h : Out B H W w1) {p : Addr} (hp : p.block < W.heap.size → B ≤ p.block ∧ p.block < H) (u : Value) : Out B H W (w1.setCell p u) :=
  ⟨h.os, h.tape, h.output, by have := h.size; simp [World.setCell]; omega, fun j hj hb => (Below.heap_setCell _ _ _ _ (fun e => by subst e; have := hp hj; omega)).trans (h.block j hj hb)⟩
theorem KidR.at' {W W' : World} {B : Nat} {e : NE} (h : KidR W B e) (hk : e.x.kids ≠ [] → ∀ kb, e.a = some ⟨kb, 0, none⟩ → W'.heap[kb]? = W.heap[kb]?) : KidR W' B e := by
  obtain ⟨⟨k1, k2, k3⟩, k4, k5⟩ := h
  refine ⟨⟨k1, k2, ?_⟩, k4, fun hks => ownsRow_heap (k5 hks) fun g hg => hk hks g ?_⟩
  · rcases k3 with k3 | ⟨kb, cur, ha, hkb', hkh, hkc⟩
    · exact .inl k3
    · by_cases hks : e.x.kids = []
      · exact .inl hks
      · exact .inr ⟨kb, cur, ha, hkb', (hk hks kb ha).trans hkh, hkc⟩
  · rcases (k5 hks).2 with ⟨h0, _⟩ | ⟨g', c', cur, h0, _⟩
    · rw [h0] at hg; cases hg
    · injection h0 with h1 _ _
      rw [h1] at hg
      have e1 : g' = g := by simpa [Value.ownBlock] using hg
      rw [h1, e1]
/-- A row of nodes, whatever lies in it, but where the kids are. -/
def Sp (w : World) (B : Nat) (v : Value) (es : List NE) : Prop := ∃ xs, w.ownsRow B 41 5 v es.length xs ∧ ∀ i e, es[i]? = some e → xs[i * 5 + 3]? = some (.slice e.a e.x.kids.length e.cap)
theorem Sp.of {w : World} {B : Nat} {v : Value} {es : List NE} (h : w.ownsRow B 41 5 v es.length (flatN es)) : Sp w B v es :=
  ⟨_, h, fun i e he => by rw [flatN_get es i e he 3 (by omega)]; rfl⟩
theorem Sp.heap {w w' : World} {B : Nat} {v : Value} {es : List NE} (h : Sp w B v es) (hk : ∀ g, v.ownBlock = some g → w'.heap[g]? = w.heap[g]?) : Sp w' B v es := by
  obtain ⟨xs, h1, h2⟩ := h
  exact ⟨xs, ownsRow_heap h1 hk, h2⟩
theorem Sp.set {w : World} {B g n cap : Nat} {es : List NE} (h : Sp w B (.slice (some ⟨g, 0, none⟩) n cap) es) (hn : es.length = n) (j : Nat) (hj : j % 5 ≠ 3) (u : Value) : Sp (w.setCell ⟨g, j, none⟩ u) B (.slice (some ⟨g, 0, none⟩) n cap) es := by
  obtain ⟨xs, h1, h2⟩ := h
  subst hn
  refine ⟨_, (h1.stored j u).1, fun i e he => ?_⟩
  rw [List.getElem?_set_ne (by omega)]
  exact h2 i e he
theorem own_slice_any {w : World} {B : Nat} {e : TypeId} {sz n : Nat} {v : Value} {xs : List Value} (h : w.ownsRow B e sz v n xs) : ∃ a cap, v = .slice a n cap ∧ n ≤ cap ∧ (0 < n → ∃ g, a = some ⟨g, 0, none⟩) := by
  rcases h.2 with ⟨rfl, rfl⟩ | ⟨g, cap, cur, rfl, _, _, hc, _⟩
  · exact ⟨none, 0, rfl, Nat.le_refl _, fun h => by omega⟩
  · exact ⟨_, _, rfl, hc, fun _ => ⟨g, rfl⟩⟩
/-- A node's row of kids, whatever. -/
theorem KidR.row {w : World} {B : Nat} {e : NE} (h : KidR w B e) : ∃ xs, w.ownsRow B 3 1 (.slice e.a e.x.kids.length e.cap) e.x.kids.length xs := by
  by_cases hks : e.x.kids = []
  · obtain ⟨h1, h2⟩ := h.2.1 hks
    rw [h1, h2, hks]
    exact ⟨[], World.ownsRow_nil _ _ _ _⟩
  · exact ⟨_, h.2.2 hks⟩
/-- Where a node's row of kids lies. -/
theorem KidR.own {w : World} {B : Nat} {e : NE} (h : KidR w B e) {k : Nat} (hk : (Value.slice e.a e.x.kids.length e.cap).ownBlock = some k) : e.x.kids ≠ [] ∧ e.a = some ⟨k, 0, none⟩ ∧ ∃ cur, w.heap[k]? = some (Obj.cells cur 3 (0, 0)) := by
  have hks : e.x.kids ≠ [] := fun h0 => by
    obtain ⟨h1, _⟩ := h.2.1 h0
    rw [h1] at hk
    cases hk
  refine ⟨hks, ?_⟩
  rcases (h.2.2 hks).2 with ⟨h0, _⟩ | ⟨g', c', cur, h0, _, hh, _⟩
  · rw [h0] at hk; cases hk
  · injection h0 with h1 _ _
    rw [h1] at hk
    have e1 : g' = k := by simpa [Value.ownBlock] using hk
    subst e1
    exact ⟨h1, cur, hh⟩

set_option maxRecDepth 100000 in
set_option maxHeartbeats 4000000 in
theorem spoil5_any (W0 W : World) (B : Nat) (v : Value) (es : List NE) (hO0 : OwnR W0 B v es) (hP : KidPw es) (hW0 : Below W0.heap.size W0 W) (hB : B ≤ W0.heap.size) (hl : es.length ≤ 100000) (hk : ∀ e ∈ es, e.x.kids.length ≤ 100000) :
    Calls Tryz.prog 15 #[.agg #[v]] W fun e w' => e = .returned (.tuple #[]) ∧ Out B W0.heap.size W w' := by
  obtain ⟨i0, hi, hz0, hz1, hz2⟩ := info_parts infoNode
  obtain ⟨j0, hj, hy0, hy1, hy2⟩ := info_parts infoInt
  have hsW := hW0.size
  obtain ⟨n, hn⟩ : ∃ n, es.length = n := ⟨_, rfl⟩
  obtain ⟨a, cap, rfl, hcap, hform⟩ := own_slice_any hO0.1
  rw [hn] at hform hcap hl
  rw [hn] at hO0
  have hown0 := hO0.1
  have HK := hide hk
  have HP : Hid (∀ (i j : Nat) (e f : NE), i < j → es[i]? = some e → es[j]? = some f → ∀ kb : Nat, e.x.kids ≠ [] → f.x.kids ≠ [] → e.a = some ⟨kb, 0, none⟩ → f.a ≠ some ⟨kb, 0, none⟩) := fun i j e f hij he hf => by
    obtain ⟨h1, rfl⟩ := List.getElem?_eq_some_iff.1 he
    obtain ⟨h2, rfl⟩ := List.getElem?_eq_some_iff.1 hf
    exact List.pairwise_iff_getElem.1 hP i j h1 h2 hij
  clear hk hP
  rw [hn]
  obtain ⟨W1, hW1⟩ : ∃ W1, W.alloc (.cells #[.slice a n cap] 24) = W1 := ⟨_, rfl⟩
  have hz1' : W1.heap.size = W.heap.size + 1 := by rw [← hW1]; simp
  have hbox1 : W1.heap[W.heap.size]? = some (.cells #[.slice a n cap] 24) := by rw [← hW1]; exact World.alloc_heap_new W _
  have hO1 : Out B W0.heap.size W W1 := by rw [← hW1]; exact (Out.refl _ _ W).alloc _
  have hb01 : ∀ k, k < W0.heap.size → W1.heap[k]? = W0.heap[k]? := fun k hk => by rw [← hW1]; exact (Below.heap_alloc W _ k (by omega)).trans (hW0.block k hk)
  have hlt0 : ∀ g, (Value.slice a n cap).ownBlock = some g → B ≤ g ∧ g < W0.heap.size := fun g hg => hown0.lt g hg
  have hlt1 : ∀ (i : Nat) (e : NE), es[i]? = some e → ∀ kb : Nat, e.x.kids ≠ [] → e.a = some ⟨kb, 0, none⟩ → B ≤ kb ∧ kb < W0.heap.size := fun i e he kb hks ha => by
    have := (hO0.2 e (List.mem_of_getElem? he)).2.2 hks
    rw [ha] at this
    exact this.lt kb rfl
  have HLT := hide hlt0
  have HL1 := hide hlt1
  have HBel : Hid (∀ w', Out B W0.heap.size W1 w' → Out B W0.heap.size W w' ∧ w'.cell? ⟨W.heap.size, 0, none⟩ = some (.slice a n cap) ∧ W.heap.size < w'.heap.size) := fun w' hg => by
    refine ⟨hO1.trans hg, ?_, by have := hg.size; omega⟩
    have : w'.heap[W.heap.size]? = some (.cells #[.slice a n cap] 24) := (hg.block _ (by omega) (by omega)).trans hbox1
    rw [Lib.cell_of_heap this]; rfl
  have HS1 : Hid (Sp W1 B (.slice a n cap) es) := Sp.heap (Sp.of hown0) fun g hg => hb01 g (hlt0 g hg).2
  have HK1 : Hid (∀ (j : Nat) (e : NE), 0 ≤ j → es[j]? = some e → KidR W1 B e) := fun j e _ he => (hO0.2 e (List.mem_of_getElem? he)).at' fun hks kb ha => hb01 kb (hlt1 j e he kb hks ha).2
  have HW1 := hide hW1
  have HSZ := hide hz1'
  clear hW1 hbox1 hb01 hO0 hown0 hlt0 hlt1 hW0 hO1 hz1'
  go_enter Tryz.func15, Tryz.ntmps15
  go_wp2
  rw [unhide HW1]
  go_loopw [2] (fun t wr => ∃ i : Nat, i ≤ n ∧ t = .int .i64 (i : Int) ∧ Sp wr B (.slice a n cap) es ∧ (∀ (j : Nat) (e : NE), i ≤ j → es[j]? = some e → KidR wr B e) ∧ Out B W0.heap.size W1 wr) (fun t _ => n - (intOf t).toNat)
  case atStart => exact ⟨0, Nat.zero_le _, rfl, unhide HS1, unhide HK1, Out.refl _ _ _⟩
  case round =>
    obtain ⟨w0, hw0⟩ : ∃ w0, w0 = wr := ⟨_, rfl⟩
    subst hw0
    obtain ⟨i, hil, rfl, hsp, hkr, hgr⟩ := hrel
    obtain ⟨hBr, cbx, hszr⟩ := unhide HBel w0 hgr
    have HSP := hide hsp
    have HGR := hide hgr
    have HKr := hide hkr
    have HBr := hide hBr
    have hgs := hgr.size
    clear hsp hgr hkr hBr
    by_cases hlt : i < n
    · have hlt' : (i : Int) < n := by omega
      have hi0' : (0 : Int) ≤ (i : Int) := Int.natCast_nonneg _
      obtain ⟨g, rfl⟩ := hform (by omega)
      obtain ⟨e0, he0⟩ : ∃ e0, es[i]? = some e0 := ⟨_, List.getElem?_eq_getElem (by omega)⟩
      have hmem := List.mem_of_getElem? he0
      obtain ⟨xs, hxs, hx3⟩ := unhide HSP
      rw [hn] at hxs
      have c3 : w0.cell? ⟨g, i * 5 + 3, none⟩ = some (.slice e0.a e0.x.kids.length e0.cap) := by rw [hxs.cellAt (i * 5 + 3) (by omega), hx3 i e0 he0]
      have hgl : g < w0.heap.size := (hxs.lt g rfl).2
      have hgl0 := unhide HLT g rfl
      have hke := unhide HKr i e0 (Nat.le_refl _) he0
      obtain ⟨ys, hys⟩ := hke.row
      have hkl := unhide HK e0 hmem
      have HOWN : Hid (∀ k, (Value.slice e0.a e0.x.kids.length e0.cap).ownBlock = some k → e0.x.kids ≠ [] ∧ e0.a = some ⟨k, 0, none⟩ ∧ (B ≤ k ∧ k < W0.heap.size) ∧ k ≠ g) := fun k hk => by
        obtain ⟨h1, h2, cur, h3⟩ := hke.own hk
        refine ⟨h1, h2, unhide HL1 i e0 he0 k h1 h2, fun e => ?_⟩
        rcases hxs.2 with ⟨h0, _⟩ | ⟨g', cap'', cur'', h0, _, hh, _⟩
        · cases h0
        · injection h0 with h0
          injection h0 with h0
          injection h0 with h0 _ _
          rw [e, h0, hh] at h3
          cases h3
      obtain ⟨kl, hkl'⟩ : ∃ kl, e0.x.kids.length = kl := ⟨_, rfl⟩
      obtain ⟨kc, hkc'⟩ : ∃ kc, e0.cap = kc := ⟨_, rfl⟩
      obtain ⟨ka, hka⟩ : ∃ ka, e0.a = ka := ⟨_, rfl⟩
      rw [hkl', hkc', hka] at c3 hys HOWN
      rw [hkl'] at hkl
      have HXS := hide hxs
      have HYS := hide hys
      have HKA := hide hka
      have HE0 := hide he0
      clear hxs hx3 hys hke hka hkl' hkc' he0 hmem
      go_wp2_with (at_builtin; refine wpList_append_lies _ rfl _ _ 39 rfl B 3 j0 _ 1 8 Tryz.underlying39 hj hy0 hy1 hy2 rfl (by decide) _ kl ys rfl ((unhide HYS).alloc _) ⟨w0.heap.size, 0, none⟩ 1 1 [.int .i64 99] rfl rfl ?c1 ?c2 (by decide) ?c3 ?c4 ?c5 _ rfl ?_)
      case c1 => exact World.news_of_block (cs := #[.int .i64 99]) (t := 3) (fr := (0, 0)) (World.alloc_heap_new _ _)
      case c2 => intro u hu; simp at hu; subst hu; rfl
      case c3 => unfold maxLen; omega
      case c4 => omega
      case c5 => simp; omega
      intro g2 c2 w2 hown2 hg2 hat2 hlt2
      have hg2n : g2 ≠ g := fun e => by
        rcases hat2 with h | h
        · exact (unhide HOWN g2 h).2.2.2 e
        · omega
      have hz2' := hg2.size
      simp at hz2'
      have HB2 : Hid (∀ k, k < w0.heap.size → some k ≠ (Value.slice ka kl kc).ownBlock → w2.heap[k]? = w0.heap[k]?) := fun k hk hne => (hg2.block k (by simp; omega) hne).trans (Below.heap_alloc w0 _ k hk)
      have HO2 : Hid (Out B W0.heap.size W1 w2) := ((unhide HGR).alloc _).grown hg2 fun k hk _ => (unhide HOWN k hk).2.2.1
      have HAT : Hid (∀ k, k < w0.heap.size → some k ≠ (Value.slice ka kl kc).ownBlock → k ≠ g2) := fun k hk hne e => by
        rcases hat2 with h | h
        · exact hne (by rw [h, e])
        · omega
      have HG2 : Hid (g2 < W1.heap.size → B ≤ g2 ∧ g2 < W0.heap.size) := fun h => by
        rcases hat2 with h' | h'
        · exact (unhide HOWN g2 h').2.2.1
        · omega
      have HOW2 := hide hown2
      have HZS := hide c3
      clear hown2 hg2 hat2 hlt2 c3
      go_wp2
      go_loopw [4] (fun t w' => ∃ (j : Nat) (zs : List Value), j ≤ kl + 1 ∧ t = .int .i64 (j : Int) ∧ w'.ownsRow B 3 1 (.slice (some ⟨g2, 0, none⟩) (kl + 1) c2) (kl + 1) zs ∧ w2.grownBy w' (some g2)) (fun t _ => kl + 1 - (intOf t).toNat)
      case atStart => exact ⟨0, _, Nat.zero_le _, rfl, unhide HOW2, World.grownBy.refl _ _⟩
      case round =>
        obtain ⟨j, zs, hjl, rfl, hownj, hgj⟩ := hrel
        have hg2w : g2 < wr.heap.size := (hownj.lt g2 rfl).2
        by_cases hjlt : j < kl + 1
        · have hjlt' : (j : Int) < (kl : Int) + 1 := by omega
          have hj0' : (0 : Int) ≤ (j : Int) := Int.natCast_nonneg _
          obtain ⟨uz, huz⟩ : ∃ uz, zs[j]? = some uz := ⟨_, List.getElem?_eq_getElem (by rw [hownj.1]; omega)⟩
          have cz : wr.cell? ⟨g2, j, none⟩ = some uz := (hownj.cellAt j (by omega)).trans huz
          have fz : wr.frozen? ⟨g2, j, none⟩ = false := hownj.frozenAt j
          have HJ1 := hide (hownj.stored j (.int .i64 98)).1
          have HJ2 := hide (hgj.trans (hownj.stored j (.int .i64 98)).2)
          clear hownj hgj
          go_wp2
          exact ⟨⟨j + 1, _, by omega, by go_num, unhide HJ1, unhide HJ2⟩, by simp [intOf]; omega⟩
        · have hjlt' : ¬ (j : Int) < (kl : Int) + 1 := by omega
          have hkeep : ∀ k, k < w0.heap.size → some k ≠ (Value.slice ka kl kc).ownBlock → wr.heap[k]? = w0.heap[k]? := fun k hk hne => (hgj.block k (by omega) (by have := unhide HAT k hk hne; simp; omega)).trans (unhide HB2 k hk hne)
          have hgo : some g ≠ (Value.slice ka kl kc).ownBlock := fun e => (unhide HOWN g e.symm).2.2.2 rfl
          have hxs' : wr.ownsRow B 41 5 (.slice (some ⟨g, 0, none⟩) n cap) n xs := ownsRow_heap (unhide HXS) fun k hk => by
            have : k = g := by simpa [Value.ownBlock] using hk.symm
            subst this
            exact hkeep _ hgl hgo
          have hsp' : Sp wr B (.slice (some ⟨g, 0, none⟩) n cap) es := (unhide HSP).heap fun k hk => by
            have : k = g := by simpa [Value.ownBlock] using hk.symm
            subst this
            exact hkeep _ hgl hgo
          have hOj : Out B W0.heap.size W1 wr := (unhide HO2).grown hgj fun k hk h => by
            obtain rfl : g2 = k := by injection hk
            exact unhide HG2 h
          have cbx' := (unhide HBel wr hOj).2.1
          have hszr' := (unhide HBel wr hOj).2.2
          have hgl' : g < wr.heap.size := (hxs'.lt g rfl).2
          have hkr' : ∀ (j : Nat) (e : NE), i + 1 ≤ j → es[j]? = some e → KidR wr B e := fun j e hj he => (unhide HKr j e (by omega) he).at' fun hks kb ha => by
            have hkbl : kb < w0.heap.size := by
              have := (unhide HKr j e (by omega) he).2.2 hks
              rw [ha] at this
              exact (this.lt kb rfl).2
            refine hkeep kb hkbl fun e1 => ?_
            obtain ⟨q1, q2, _, _⟩ := unhide HOWN kb e1.symm
            exact unhide HP i j e0 e (by omega) (unhide HE0) he kb q1 hks ((unhide HKA).trans q2) ha
          obtain ⟨u1, hu1⟩ : ∃ u1, xs[i * 5 + 1]? = some u1 := ⟨_, List.getElem?_eq_getElem (by rw [hxs'.1]; omega)⟩
          have c1 : wr.cell? ⟨g, i * 5 + 1, none⟩ = some u1 := (hxs'.cellAt _ (by omega)).trans hu1
          have f1 : wr.frozen? ⟨g, i * 5 + 1, none⟩ = false := hxs'.frozenAt _
          have HN1 := hide (hsp'.set hn (i * 5 + 1) (by omega) (.string ⟨#[115, 112, 111, 105, 108, 116]⟩))
          have HN2 : Hid (Out B W0.heap.size W1 (wr.setCell ⟨g, i * 5 + 1, none⟩ (.string ⟨#[115, 112, 111, 105, 108, 116]⟩))) := hOj.setCell (p := ⟨g, i * 5 + 1, none⟩) (fun _ => hgl0) _
          have HN3 : Hid (∀ (j : Nat) (e : NE), i + 1 ≤ j → es[j]? = some e → KidR (wr.setCell ⟨g, i * 5 + 1, none⟩ (.string ⟨#[115, 112, 111, 105, 108, 116]⟩)) B e) := fun j e hj he => (hkr' j e hj he).keep fun k cur hk => Below.heap_setCell _ _ _ _ (fun e1 => by
            rcases hxs'.2 with ⟨h0, _⟩ | ⟨g', cap'', cur'', h0, _, hh, _⟩
            · cases h0
            · injection h0 with h0
              injection h0 with h0
              injection h0 with h0 _ _
              have e2 : k = g := e1
              rw [e2, h0, hh] at hk
              cases hk)
          clear hxs' hsp' hkeep hownj hgj cbx hOj hkr'
          go_wp2
          exact ⟨⟨i + 1, by omega, by go_num, unhide HN1, unhide HN3, unhide HN2⟩, by simp [intOf]; omega⟩
    · have hlt' : ¬ (i : Int) < n := by omega
      have HIN := hide (show i = n by omega)
      clear hil hlt
      obtain ⟨xs, hxs, _⟩ := unhide HSP
      rw [hn] at hxs
      have HXS := hide hxs
      have hz1'' := unhide HSZ
      clear hxs
      go_wp2_with (at_builtin; refine wpList_append_lies _ rfl _ _ 22 rfl B 41 i0 _ 5 64 Tryz.underlying22 hi hz0 hz1 hz2 rfl (by decide) _ n xs rfl ((unhide HXS).alloc _) ⟨w0.heap.size, 0, none⟩ 1 1 (cellN ⟨⟨97, ⟨#[]⟩, 0, [], 0⟩, none, 0⟩) rfl rfl ?c1 ?c2 (by decide) ?c3 ?c4 ?c5 _ rfl ?_)
      case c1 => exact fun j u h => h
      case c2 => intro u hu; simp [cellN] at hu; rcases hu with rfl | rfl | rfl | rfl | rfl <;> rfl
      case c3 => unfold maxLen; omega
      case c4 => omega
      case c5 => first | omega | (simp; omega)
      intro g4 cap4 w4 hown4 hg4 hat4 hlt4
      have hO4 : Out B W0.heap.size W w4 := ((unhide HBr).alloc _).grown hg4 fun k hk _ => unhide HLT k hk
      have HG4 : Hid (g4 < W.heap.size → B ≤ g4 ∧ g4 < W0.heap.size) := fun h => by
        rcases hat4 with h' | h'
        · exact unhide HLT g4 h'
        · omega
      have HO4 := hide hown4
      have HB4 := hide hO4
      clear hown4 hg4 hat4 hO4 cbx
      go_wp2
      go_loopw [6] (fun t w' => ∃ (j : Nat) (zs : List Value), j ≤ n + 1 ∧ t = .int .i64 (j : Int) ∧ w'.ownsRow B 41 5 (.slice (some ⟨g4, 0, none⟩) (n + 1) cap4) (n + 1) zs ∧ Out B W0.heap.size W w') (fun t _ => n + 1 - (intOf t).toNat)
      case atStart => exact ⟨0, _, Nat.zero_le _, rfl, unhide HO4, unhide HB4⟩
      case round =>
        obtain ⟨j, zs, hjl, rfl, hownj, hBj⟩ := hrel
        have hg4w := hownj.lt g4 rfl
        by_cases hjlt : j < n + 1
        · have hjlt' : (j : Int) < (n : Int) + 1 := by omega
          have hj0' : (0 : Int) ≤ (j : Int) := Int.natCast_nonneg _
          obtain ⟨uz, huz⟩ : ∃ uz, zs[j * 5]? = some uz := ⟨_, List.getElem?_eq_getElem (by rw [hownj.1]; omega)⟩
          have cz : wr.cell? ⟨g4, j * 5, none⟩ = some uz := (hownj.cellAt _ (by omega)).trans huz
          have fz : wr.frozen? ⟨g4, j * 5, none⟩ = false := hownj.frozenAt _
          have hg4' := hg4w.2
          have HJ1 := hide (hownj.stored (j * 5) (.int .i64 96)).1
          have HJ2 := hide (hBj.setCell (p := ⟨g4, j * 5, none⟩) (unhide HG4) (.int .i64 96))
          clear hownj hBj
          go_wp2
          exact ⟨⟨j + 1, _, by omega, by go_num, unhide HJ1, unhide HJ2⟩, by simp [intOf]; omega⟩
        · have hjlt' : ¬ (j : Int) < (n : Int) + 1 := by omega
          go_wp2
          exact bodyPost_end (v := .tuple #[]) (by simp [results, Tryz.results15, go_sem]) rfl ⟨rfl, hBj⟩
end Go.Proofs.YtnnpkomedpjlcaaGreatDoor

/- The reference's Strip in general. -/
namespace Go.Proofs.YtnnpkomedpjlcaaGreatDoor
set_option linter.unusedSimpArgs false
set_option linter.unusedVariables false
open Go.RowKit Go.Shelf

theorem top_iff {l : List Nd} : topK l = true ↔ (nd l 0).kind = 3 ∨ isE (nd l 0).kind = true := by
  have : exprK (nd l 0).kind = isE (nd l 0).kind := by simp only [exprK, isE, bne]
  simp only [topK, Bool.or_eq_true, beq_iff_eq, this]
theorem top_ok2 {l : List Nd} (ht : topK l = true) : Ok2 l 0 := by
  rcases top_iff.1 ht with h | h
  · exact ⟨⟨by omega, by omega, by omega, by omega, by omega, by omega, by omega⟩, nty (by omega), by omega⟩
  · exact Ok2.expr h
/-- Two boxes of trees. -/
theorem two_trees {W W1 : World} {v : Value} (h : (W.alloc (.cells #[v] 24)).alloc (.cells #[.slice none 0 0] 24) = W1) : Below W.heap.size W W1 ∧ W1.heap.size = W.heap.size + 1 + 1 ∧ ∀ w', Below W1.heap.size W1 w' → Below W.heap.size W w' ∧ w'.cell? ⟨W.heap.size, 0, none⟩ = some v ∧ W.heap.size < w'.heap.size ∧ w'.heap[W.heap.size + 1]? = some (.cells #[.slice none 0 0] 24) ∧ W.heap.size + 1 < w'.heap.size := by
  have hB : Below W.heap.size W W1 := by rw [← h]; exact ((Below.refl _ W).alloc (Nat.le_refl _) _).alloc (by simp) _
  have hz : W1.heap.size = W.heap.size + 1 + 1 := by rw [← h]; simp
  have h1 : W1.heap[W.heap.size]? = some (.cells #[v] 24) := by rw [← h]; exact rat_a2 W _ _
  have h2 : W1.heap[W.heap.size + 1]? = some (.cells #[.slice none 0 0] 24) := by
    rw [← h]
    have := World.alloc_heap_new (W.alloc (.cells #[v] 24)) (.cells #[.slice none 0 0] 24)
    rw [World.size_alloc] at this
    exact this
  refine ⟨hB, hz, fun w' hw => ?_⟩
  have hs := hw.size
  exact ⟨hB.trans (hw.mono (by omega)), by rw [Lib.cell_of_heap ((hw.block _ (by omega)).trans h1)]; rfl, by omega, (hw.block _ (by omega)).trans h2, by omega⟩

set_option maxRecDepth 100000 in
set_option maxHeartbeats 4000000 in
theorem rstrip_no (W : World) (M : Nat) (v : Value) (l : List Nd) (hN : Nodes W M v l) (hM : M ≤ W.heap.size) (hT : ∀ m, m < l.length → (nd l m).text.size ≤ 1048576) (hno : ¬ ((chkP l).2 = 0 ∧ topK l = true)) : Calls Tryz.prog 13 #[.agg #[v]] W (StripNo 7 W) := by
  obtain ⟨W1, hW1⟩ : ∃ W1, (W.alloc (.cells #[v] 24)).alloc (.cells #[.slice none 0 0] 24) = W1 := ⟨_, rfl⟩
  obtain ⟨hB1, hz1, hX⟩ := two_trees hW1
  have HG := hide (rGood_any W1 M v l (hN.keep hB1 hM) (Nat.le_trans hM hB1.size) hT)
  have HX := hide hX
  have HW1 := hide hW1
  have HEND : Hid (∀ w2, Below W1.heap.size W1 w2 → StripNo 7 W (.returned (.tuple #[.agg #[.slice none 0 0], .int .i64 7])) (w2.setCell ⟨W.heap.size + 1, 0, none⟩ (.slice none 0 0)) ∧ (w2.setCell ⟨W.heap.size + 1, 0, none⟩ (.slice none 0 0)).cell? ⟨W.heap.size + 1, 0, none⟩ = some (.slice none 0 0)) := fun w2 h => by
    obtain ⟨a1, a2, a3, a4, a5⟩ := hX w2 h
    have hx7 := setK a4 0 (.slice none 0 0)
    exact ⟨⟨rfl, a1.setCell (p := ⟨W.heap.size + 1, 0, none⟩) (by show W.heap.size ≤ W.heap.size + 1; omega) _⟩, by rw [Lib.cell_of_heap hx7]; rfl⟩
  cases hg : ((chkP l).2 == 0) with
  | false =>
    rw [hg] at HG
    obtain ⟨va, vc, rfl, _, _⟩ := hN.len
    clear hN hB1 hz1 hX hW1 hno hT hg
    go_enter Tryz.func13, Tryz.ntmps13
    go_wp2_with (go_at_call 27; rw [unhide HW1]; refine (unhide HG).mono ?_; rintro e w2 ⟨rfl, hB2⟩; have x4 := (unhide HX w2 hB2).2.2.2.1; have y2 : w2.cell? ⟨W.heap.size + 1, 0, none⟩ = some (.slice none 0 0) := (by rw [Lib.cell_of_heap x4]; rfl); have y3 := rfrozen_at x4 0; have y4 := (unhide HX w2 hB2).2.2.2.2; have HB2 := hide hB2; clear hB2 x4)
    obtain ⟨h1, r7⟩ := unhide HEND w2 (unhide HB2)
    exact bodyPost_ret (v := .tuple #[.agg #[.slice none 0 0], .int .i64 7]) (by simp [results, Tryz.results13, go_sem, r7]) rfl h1
  | true =>
    have hc : (chkP l).2 = 0 := beq_iff_eq.1 hg
    have ht : ¬ topK l = true := fun h => hno ⟨hc, h⟩
    rw [top_iff] at ht
    have hl0 : 0 < l.length := (chk_fine hc).1
    rw [hg] at HG
    have HND : Hid (∀ w', Below W1.heap.size W1 w' → Nodes w' M v l) := fun w' h => hN.keep (hX w' h).1 hM
    obtain ⟨b, o, cap, ka, kc, rfl, _, _, hb, _⟩ := hN.at hl0
    obtain ⟨k0, hk0⟩ : ∃ k0, (nd l 0).kind = k0 := ⟨_, rfl⟩
    rw [hk0] at ht
    have HK : Hid (∀ w', Below W1.heap.size W1 w' → w'.cell? ⟨b, o, none⟩ = some (.int .i64 k0) ∧ b < w'.heap.size) := fun w' h => by
      obtain ⟨b2, o2, cap2, ka2, kc2, hv, _, _, hb2, d0, _⟩ := (unhide HND w' h).at hl0
      cases hv
      have := (hX w' h).1.size
      exact ⟨by rw [← hk0]; simpa using d0, by omega⟩
    have e3 : (k0 == 3) = false := beq_eq_false_iff_ne.2 (fun h => ht (.inl h))
    have eE : isE k0 = false := by
      cases h : isE k0 with
      | false => rfl
      | true => exact absurd (.inr h) ht
    have HE := hide fun w => rExpr_any k0 w
    rw [eE] at HE
    have hl0' : (0 : Int) < (l.length : Int) := by omega
    clear hN hB1 hz1 hX hW1 hno hT hg ht hc hk0 eE HND
    go_enter Tryz.func13, Tryz.ntmps13
    go_wp2_with (first
      | (go_at_call 27; rw [unhide HW1]; refine (unhide HG).mono ?_; rintro e w2 ⟨rfl, hB2⟩; have x4 := (unhide HX w2 hB2).2.2.2.1; have y0 := (unhide HX w2 hB2).2.1; have y1 := (unhide HX w2 hB2).2.2.1; have y2 : w2.cell? ⟨W.heap.size + 1, 0, none⟩ = some (.slice none 0 0) := (by rw [Lib.cell_of_heap x4]; rfl); have y3 := rfrozen_at x4 0; have y4 := (unhide HX w2 hB2).2.2.2.2; obtain ⟨z1, z2⟩ := unhide HK w2 hB2; have HB2 := hide hB2; clear hB2 x4)
      | (go_at_call 28; refine (unhide HE _).mono ?_; rintro e w3 ⟨rfl, hw3⟩; rw [hw3]; clear hw3))
    obtain ⟨h1, r7⟩ := unhide HEND w2 (unhide HB2)
    exact bodyPost_ret (v := .tuple #[.agg #[.slice none 0 0], .int .i64 7]) (by simp [results, Tryz.results13, go_sem, r7]) rfl h1

set_option maxRecDepth 100000 in
set_option maxHeartbeats 4000000 in
theorem rstrip_yes (W : World) (M : Nat) (v : Value) (l : List Nd) (hN : Nodes W M v l) (hM : M ≤ W.heap.size) (hl : l.length ≤ 100000) (hts : ∀ x ∈ l, x.text.size ≤ 1048576) (hc : (chkP l).2 = 0) (ht : topK l = true) :
    Calls Tryz.prog 13 #[.agg #[v]] W fun e w' => ∃ v' es, e = .returned (.tuple #[.agg #[v'], .int .i64 0]) ∧ es.map NE.x = stripP l ∧ OwnN w' W.heap.size v' es ∧ Below W.heap.size W w' := by
  have hT : ∀ m, m < l.length → (nd l m).text.size ≤ 1048576 := fun m hm => hts _ (by
    have : nd l m = l[m] := by simp [nd, List.getD_eq_getElem?_getD, List.getElem?_eq_getElem hm]
    rw [this]; exact List.getElem_mem hm)
  obtain ⟨W1, hW1⟩ : ∃ W1, (W.alloc (.cells #[v] 24)).alloc (.cells #[.slice none 0 0] 24) = W1 := ⟨_, rfl⟩
  obtain ⟨hB1, hz1, hX⟩ := two_trees hW1
  have HG := hide (rGood_any W1 M v l (hN.keep hB1 hM) (Nat.le_trans hM hB1.size) hT)
  have hg : ((chkP l).2 == 0) = true := by rw [hc]; rfl
  rw [hg] at HG
  have HX := hide hX
  have HW1 := hide hW1
  have hl0 : 0 < l.length := (chk_fine hc).1
  have HND : Hid (∀ w', Below W1.heap.size W1 w' → Nodes w' M v l) := fun w' h => hN.keep (hX w' h).1 hM
  have HST : Hid (∀ w', Below W1.heap.size W1 w' → Calls Tryz.prog 29 #[.agg #[v], .int .i64 ((0 : Nat) : Int)] w' (StrQ l 0 w')) := fun w' h => by
    have h1 := (hX w' h).1.size
    exact stripped_any hc hl hts M v _ 0 (Nat.le_refl _) hl0 (top_ok2 ht) w' (unhide HND w' h) (by omega)
  have HNE : Hid (lay l 0 0 ≠ []) := (lay_in hc _ 0 (Nat.le_refl _) hl0 0).1
  obtain ⟨b, o, cap, ka, kc, rfl, _, _, hb, _⟩ := hN.at hl0
  obtain ⟨k0, hk0⟩ : ∃ k0, (nd l 0).kind = k0 := ⟨_, rfl⟩
  rw [top_iff, hk0] at ht
  have HK : Hid (∀ w', Below W1.heap.size W1 w' → w'.cell? ⟨b, o, none⟩ = some (.int .i64 k0) ∧ b < w'.heap.size) := fun w' h => by
    obtain ⟨b2, o2, cap2, ka2, kc2, hv, _, _, hb2, d0, _⟩ := (unhide HND w' h).at hl0
    cases hv
    have := (hX w' h).1.size
    exact ⟨by rw [← hk0]; simpa using d0, by omega⟩
  have hk3 : (k0 == 3) = true ∨ ((k0 == 3) = false ∧ isE k0 = true) := by
    by_cases h : k0 = 3
    · exact .inl (by rw [h]; rfl)
    · exact .inr ⟨beq_eq_false_iff_ne.2 h, ht.resolve_left h⟩
  have HE := hide fun w => rExpr_any k0 w
  have hl0' : (0 : Int) < (l.length : Int) := by omega
  have HZ1 := hide hz1
  clear hN hB1 hz1 hX hW1 hT hg ht hc hk0 HND hts
  rcases hk3 with e3 | ⟨e3, eE⟩
  all_goals (
    go_enter Tryz.func13, Tryz.ntmps13
    go_wp2_with (first
      | (go_at_call 27
         rw [unhide HW1]
         refine (unhide HG).mono ?_
         rintro e w2 ⟨rfl, hB2⟩
         have y0 := (unhide HX w2 hB2).2.1
         have y1 := (unhide HX w2 hB2).2.2.1
         obtain ⟨z1, z2⟩ := unhide HK w2 hB2
         have HB2 := hide hB2
         clear hB2)
      | (go_at_call 28; refine (unhide HE _).mono ?_; rw [eE]; rintro e w3 ⟨rfl, hw3⟩; rw [hw3]; clear hw3)
      | (go_at_call 29
         refine (unhide HST w2 (unhide HB2)).mono ?_
         rintro e w5 ⟨v5, es5, rfl, hmap5, hown5, hb5⟩
         obtain ⟨g5, c5, rfl, _⟩ := hown5.1.form (by have h1 := congrArg List.length hmap5; rw [List.length_map] at h1; rw [h1]; exact List.length_pos_iff.2 (unhide HNE))
         obtain ⟨n5, hn5⟩ : ∃ n5, es5.length = n5 := ⟨_, rfl⟩
         rw [hn5] at hown5
         rw [hn5]
         have hb15 := (unhide HB2).trans (hb5.mono (unhide HB2).size)
         have hr5 := (unhide HX w5 hb15).2.2.2.1
         have cr5 : w5.cell? ⟨W.heap.size + 1, 0, none⟩ = some (.slice none 0 0) := (by rw [Lib.cell_of_heap hr5]; rfl)
         have fr5 : w5.frozen? ⟨W.heap.size + 1, 0, none⟩ = false := rfrozen_at hr5 0
         have lr5 := (unhide HX w5 hb15).2.2.2.2
         have HR5 := hide hr5
         have HB15 := hide hb15
         have HO5 := hide hown5
         have HM5 := hide hmap5
         clear hown5 hmap5 hb5 hn5 hb15 hr5))
    obtain ⟨w9, hw9⟩ : ∃ w9, w5.setCell ⟨W.heap.size + 1, 0, none⟩ (.slice (some ⟨g5, 0, none⟩) n5 c5) = w9 := ⟨_, rfl⟩
    have hrb9 : w9.heap[W.heap.size + 1]? = some (.cells #[.slice (some ⟨g5, 0, none⟩) n5 c5] 24) := by rw [← hw9]; exact setK (unhide HR5) 0 _
    have c9 : w9.cell? ⟨W.heap.size + 1, 0, none⟩ = some (.slice (some ⟨g5, 0, none⟩) n5 c5) := by rw [Lib.cell_of_heap hrb9]; rfl
    have hsz2 := (unhide HB2).size
    have hz := unhide HZ1
    have hO9 : OwnN w9 W.heap.size (.slice (some ⟨g5, 0, none⟩) n5 c5) es5 := by rw [← hw9]; exact OwnN.low (unhide HO5) (by omega) (by omega)
    have hB9 : Below W.heap.size W w9 := by rw [← hw9]; exact ((unhide HX w5 (unhide HB15)).1).setCell (p := ⟨W.heap.size + 1, 0, none⟩) (by show W.heap.size ≤ W.heap.size + 1; omega) _
    rw [hw9]
    exact bodyPost_ret (v := .tuple #[.agg #[.slice (some ⟨g5, 0, none⟩) n5 c5], .int .i64 0]) (by simp [results, Tryz.results13, go_sem, c9]) rfl ⟨_, es5, rfl, unhide HM5, hO9, hB9⟩)
end Go.Proofs.YtnnpkomedpjlcaaGreatDoor

/- The law CoreStrips, walked. -/
namespace Go.Proofs.YtnnpkomedpjlcaaGreatDoor
set_option linter.unusedSimpArgs false
set_option linter.unusedVariables false
open Go.RowKit Go.Shelf

/-- What Strip answers: a list of nodes and an error. -/
def SA (S : List Nd) (c : Int) (W : World) (e : Ending) (w' : World) : Prop := ∃ v' es, e = .returned (.tuple #[.agg #[v'], .int .i64 c]) ∧ es.map NE.x = S ∧ OwnR w' W.heap.size v' es ∧ KidPw es ∧ Below W.heap.size W w'
def RA (S : List Nd) (c : Int) (W : World) (e : Ending) (w' : World) : Prop := ∃ v' es, e = .returned (.tuple #[.agg #[v'], .int .i64 c]) ∧ es.map NE.x = S ∧ OwnN w' W.heap.size v' es ∧ Below W.heap.size W w'
/-- A tree of one's own, in a box behind it. -/
theorem box3 {B : Nat} {w1 w2 W3 : World} {v' : Value} {es : List NE} {S : List Nd} (hs : Smal S) (hmap : es.map NE.x = S) (hO : OwnN w2 B v' es) (hb : Below w1.heap.size w1 w2) (hW : w2.alloc (.cells #[v'] 24) = W3) (w' : World) (h : Below W3.heap.size W3 w') :
    Below w1.heap.size w1 w' ∧ w'.cell? ⟨w2.heap.size, 0, none⟩ = some v' ∧ w2.heap.size < w'.heap.size ∧ Nodes w' w'.heap.size v' S := by
  have hz : W3.heap.size = w2.heap.size + 1 := by rw [← hW]; simp
  have h2 : Below w2.heap.size w2 W3 := by rw [← hW]; exact (Below.refl _ w2).alloc (Nat.le_refl _) _
  have h2w : Below w2.heap.size w2 w' := h2.trans (h.mono (by omega))
  have hsz := h.size
  refine ⟨hb.trans (h2w.mono hb.size), ?_, by omega, ?_⟩
  · subst hW; exact box_cell (Nat.le_refl _) h
  · exact ((hO.nodesS hmap hs).keep h2w (Nat.le_refl _)).mono (by omega)
/-- Behind spoil: what lies outside of the spoilt tree is as it was. -/
theorem boxes9 {W3 w4 W5 w6 W7 w8 w9 : World} {v4 v6 : Value} {es6 : List NE} (hb4 : Below W3.heap.size W3 w4) (hW5 : w4.alloc (.cells #[v4] 24) = W5) (hO6 : OwnN w6 W5.heap.size v6 es6) (hb6 : Below W5.heap.size W5 w6) (hW7 : w6.alloc (.cells #[v6] 24) = W7) (hb8 : Below W7.heap.size W7 w8) (hout : Out W3.heap.size w4.heap.size w8 w9) :
    Below W3.heap.size W3 w9 ∧ w9.heap[w4.heap.size]? = some (.cells #[v4] 24) ∧ w9.heap[w6.heap.size]? = some (.cells #[v6] 24) ∧ OwnN w9 W5.heap.size v6 es6 ∧ w4.heap.size < w6.heap.size ∧ w6.heap.size < w9.heap.size := by
  have z5 : W5.heap.size = w4.heap.size + 1 := by rw [← hW5]; simp
  have z7 : W7.heap.size = w6.heap.size + 1 := by rw [← hW7]; simp
  have s4 := hb4.size
  have s6 := hb6.size
  have s8 := hb8.size
  have s9 := hout.size
  have b45 : Below w4.heap.size w4 W5 := by rw [← hW5]; exact (Below.refl _ w4).alloc (Nat.le_refl _) _
  have b67 : Below w6.heap.size w6 W7 := by rw [← hW7]; exact (Below.refl _ w6).alloc (Nat.le_refl _) _
  have b68 : Below w6.heap.size w6 w8 := b67.trans (hb8.mono (by omega))
  have b38 : Below W3.heap.size W3 w8 := hb4.trans ((b45.trans ((hb6.trans (b68.mono s6)).mono (by omega))).mono s4)
  have o6 : OwnN w8 W5.heap.size v6 es6 := ⟨ownsRow_heap hO6.1 fun k hk => b68.block k (hO6.1.lt k hk).2, fun e he => (hO6.2 e he).below b68⟩
  refine ⟨⟨hout.os.trans b38.os, hout.tape.trans b38.tape, hout.output.trans b38.output, by omega, fun k hk => (hout.block k (by omega) (.inl hk)).trans (b38.block k hk)⟩, ?_, ?_, ?_, by omega, by omega⟩
  · refine (hout.block _ (by omega) (.inr (Nat.le_refl _))).trans ((b68.block _ (by omega)).trans ((hb6.block _ (by omega)).trans ?_))
    rw [← hW5]; exact World.alloc_heap_new w4 _
  · refine (hout.block _ (by omega) (.inr (by omega))).trans ((hb8.block _ (by omega)).trans ?_)
    rw [← hW7]; exact World.alloc_heap_new w6 _
  · refine ⟨ownsRow_heap o6.1 fun k hk => hout.block k (o6.1.lt k hk).2 (.inr (by have := (o6.1.lt k hk).1; omega)), fun e he => ?_⟩
    obtain ⟨k1, k2, k3⟩ := o6.2 e he
    refine ⟨k1, k2, ?_⟩
    rcases k3 with k3 | ⟨kb, cur, ha, hkb, hkh, hkc⟩
    · exact .inl k3
    · exact .inr ⟨kb, cur, ha, hkb, (hout.block kb (Array.getElem?_eq_some_iff.1 hkh).1 (.inr (by omega))).trans hkh, hkc⟩
/-- The second tree in the first one's box. -/
theorem boxes11 {W3 w9 w10 W11 : World} {p4 p6 N5 : Nat} {v4 v6 v10 : Value} {es6 es10 : List NE} {S : List Nd} (hs : Smal S) (h93 : Below W3.heap.size W3 w9) (c4 : w9.heap[p4]? = some (.cells #[v4] 24)) (c6 : w9.heap[p6]? = some (.cells #[v6] 24)) (h46 : p4 < p6) (h3p : W3.heap.size ≤ p4) (hN5 : p4 < N5) (o6 : OwnN w9 N5 v6 es6) (hm6 : es6.map NE.x = S) (o10 : OwnN w10 w9.heap.size v10 es10) (hm10 : es10.map NE.x = S) (hb10 : Below w9.heap.size w9 w10) (hW11 : w10.setCell ⟨p4, 0, none⟩ v10 = W11) :
    ∀ w', Below W11.heap.size W11 w' → Below W3.heap.size W3 w' ∧ w'.cell? ⟨p4, 0, none⟩ = some v10 ∧ p4 < w'.heap.size ∧ w'.cell? ⟨p6, 0, none⟩ = some v6 ∧ p6 < w'.heap.size ∧ Nodes w' w'.heap.size v10 S ∧ Nodes w' w'.heap.size v6 S := by
  have l4 : p4 < w9.heap.size := (Array.getElem?_eq_some_iff.1 c4).1
  have l6 : p6 < w9.heap.size := (Array.getElem?_eq_some_iff.1 c6).1
  have s10 := hb10.size
  have z11 : W11.heap.size = w10.heap.size := setCell_size hW11
  have c4' : W11.heap[p4]? = some (.cells #[v10] 24) := by rw [← hW11]; exact setK ((hb10.block p4 l4).trans c4) 0 _
  have c6' : W11.heap[p6]? = some (.cells #[v6] 24) := by rw [← hW11]; exact (Below.heap_setCell _ _ _ _ (by show p6 ≠ p4; omega)).trans ((hb10.block p6 l6).trans c6)
  have b3 : Below W3.heap.size W3 W11 := by rw [← hW11]; exact (h93.trans (hb10.mono h93.size)).setCell (p := ⟨p4, 0, none⟩) h3p _
  have o6' : OwnN W11 0 v6 es6 := by
    have h1 : OwnN w10 N5 v6 es6 := ⟨ownsRow_heap o6.1 fun k hk => hb10.block k (o6.1.lt k hk).2, fun e he => (o6.2 e he).below hb10⟩
    rw [← hW11]; exact h1.low hN5 (Nat.zero_le _)
  have o10' : OwnN W11 0 v10 es10 := by rw [← hW11]; exact o10.low (by omega) (Nat.zero_le _)
  have n6 := o6'.nodesS hm6 hs
  have n10 := o10'.nodesS hm10 hs
  intro w' h
  have hs' := h.size
  refine ⟨b3.trans (h.mono b3.size), ?_, by omega, ?_, by omega, (n10.keep h (Nat.le_refl _)).mono (by omega), (n6.keep h (Nat.le_refl _)).mono (by omega)⟩
  · rw [Lib.cell_of_heap ((h.block p4 (by omega)).trans c4')]; rfl
  · rw [Lib.cell_of_heap ((h.block p6 (by omega)).trans c6')]; rfl
theorem chk_7 {l : List Nd} (h : ¬ (chkP l).2 = 0) : (chkP l).2 = 7 := by
  simp only [chkP] at h ⊢
  split
  · rfl
  · rename_i h0
    rw [if_neg h0] at h
    simp only [outP] at h ⊢
    split
    · rename_i h1
      rw [if_pos h1] at h
      split
      · rfl
      · rename_i h2
        rw [if_neg h2] at h
        exact absurd rfl h
    · rfl
/-- What is left, and the error. -/
theorem strip_both {l : List Nd} (hs : Smal l) : ∃ (S : List Nd) (c : Int), Smal S ∧ (∀ w M u, Nodes w M u l → M ≤ w.heap.size → Calls Tryz.prog 12 #[.agg #[u]] w (SA S c w)) ∧ (∀ w M u, Nodes w M u l → M ≤ w.heap.size → Calls Tryz.prog 13 #[.agg #[u]] w (RA S c w)) := by
  have hl : l.length ≤ 100000 := by have := hs.1; omega
  have hts : ∀ x ∈ l, x.text.size ≤ 1048576 := fun x hx => by have := (hs.2 x hx).1; omega
  have hT : ∀ m, m < l.length → (nd l m).text.size ≤ 1048576 := fun m hm => hts _ (by
    have : nd l m = l[m] := by simp [nd, List.getD_eq_getElem?_getD, List.getElem?_eq_getElem hm]
    rw [this]; exact List.getElem_mem hm)
  by_cases h : (chkP l).2 = 0 ∧ topK l = true
  · have h0 := (chk_fine h.1).1
    refine ⟨stripP l, 0, ?_, fun w M u hN hM => ?_, fun w M u hN hM => ?_⟩
    · have hlen : (stripP l).length ≤ l.length := by
        have := layF_len h.1 l.length 0 0 h0
        rw [(chk_fine h.1).2.2] at this
        exact this
      refine ⟨by have := hs.1; omega, fun x hx => ⟨?_, ?_⟩⟩
      · exact lay_texts h.1 3000 (fun y hy => (hs.2 y hy).1) _ 0 (Nat.le_refl _) h0 0 x hx
      · have := lay_kidsLen h.1 _ 0 (Nat.le_refl _) h0 0 x hx
        have := hs.1
        omega
    · refine (strip_yes w M u l hN hM hl h.1 h.2).mono ?_
      rintro e w' ⟨v', es, a, b, c, d, f⟩
      exact ⟨v', es, a, b, c, d, f⟩
    · exact rstrip_yes w M u l hN hM hl hts h.1 h.2
  · refine ⟨[], 7, ⟨by simp, fun x hx => (by cases hx)⟩, fun w M u hN hM => ?_, fun w M u hN hM => ?_⟩
    · have key : Calls Tryz.prog 12 #[.agg #[u]] w (StripNo 7 w) := by
        by_cases hc : (chkP l).2 = 0
        · refine strip_no w M u l hN hM hc ?_
          cases ht : topK l with
          | false => rfl
          | true => exact absurd ⟨hc, ht⟩ h
        · have := strip_bad w M u l hN hM hc
          rw [chk_7 hc] at this
          exact this
      refine key.mono ?_
      rintro e w' ⟨rfl, hb⟩
      exact ⟨_, [], rfl, rfl, ⟨World.ownsRow_nil _ _ _ _, fun e he => (by cases he)⟩, List.Pairwise.nil, hb⟩
    · refine (rstrip_no w M u l hN hM hT h).mono ?_
      rintro e w' ⟨rfl, hb⟩
      exact ⟨_, [], rfl, rfl, ⟨World.ownsRow_nil _ _ _ _, fun e he => (by cases he)⟩, hb⟩
end Go.Proofs.YtnnpkomedpjlcaaGreatDoor

/- The law CoreStrips, walked: the law itself. -/
namespace Go.Proofs.YtnnpkomedpjlcaaGreatDoor
set_option linter.unusedSimpArgs false
set_option linter.unusedVariables false
open Go.RowKit Go.Shelf

theorem SA.form {S : List Nd} {w : World} {B : Nat} {v : Value} {es : List NE} (hm : es.map NE.x = S) (h : w.ownsRow B 41 5 v es.length (flatN es)) : ∃ a c, v = .slice a S.length c := by
  have hl : es.length = S.length := by rw [← hm]; simp
  obtain ⟨a, c, rfl, _⟩ := own_slice_any h
  exact ⟨a, c, by rw [hl]⟩

set_option maxRecDepth 100000 in
set_option maxHeartbeats 8000000 in
theorem strips_law (W : World) (M : Nat) (v : Value) (l : List Nd) (hN : NodesR W M v l) (hM : M ≤ W.heap.size) :
    Calls Tryz.prog 4 #[.agg #[v]] W fun e w' => e = .returned (.bool true) ∧ Below W.heap.size W w' := by
  obtain ⟨W1, hW1⟩ : ∃ W1, W.alloc (.cells #[v] 24) = W1 := ⟨_, rfl⟩
  have hB1 : Below W.heap.size W W1 := by rw [← hW1]; exact (Below.refl _ W).alloc (Nat.le_refl _) _
  have hz1 : W1.heap.size = W.heap.size + 1 := by rw [← hW1]; simp
  have HBX : Hid (∀ w', Below W1.heap.size W1 w' → Below W.heap.size W w' ∧ w'.cell? ⟨W.heap.size, 0, none⟩ = some v ∧ W.heap.size < w'.heap.size) := fun w' h =>
    ⟨hB1.trans (h.mono (by omega)), by subst hW1; exact box_cell (Nat.le_refl _) h, by have := h.size; omega⟩
  have HG := hide (great_reach W1 M v l (hN.keep hB1 hM) (Nat.le_trans hM hB1.size))
  obtain ⟨a, cap, rfl, _, _⟩ := hN.len
  cases ha : decide (3000 < szN l l.length) with
  | true =>
    rw [ha] at HG
    have HW1 := hide hW1
    clear ha hN hB1 hW1 hz1
    go_enter Tryz.func4, Tryz.ntmps4
    go_wp2_with (go_at_call 6; rw [unhide HW1]; refine (unhide HG).mono ?_; rintro e w2 ⟨rfl, hB2⟩)
    go_ret
    exact ⟨rfl, (unhide HBX w2 hB2).1⟩
  | false =>
    have hal : szN l l.length ≤ 3000 := by simpa using ha
    have hNn := hN.nodes hal
    have hs := Smal.of hal
    rw [ha] at HG
    have HL : Hid (∀ w', Below W1.heap.size W1 w' → Calls Tryz.prog 7 #[.agg #[.slice a l.length cap]] w' (LentS l w')) := fun w' h => by
      have h1 := (unhide HBX w' h).1
      exact lents_any w' M _ l (hNn.keep h1 hM) (Nat.le_trans hM h1.size) hal
    have H3 : Hid (∀ (w1 w2 W3 : World) (g cx : Nat) (es : List NE), Below W1.heap.size W1 w1 → _) := fun w1 w2 W3 g cx es hb1 => lent3 W W1 w2 W3 w1 M a cap l hNn hM hs hW1 hb1 g cx es
    obtain ⟨S, c, hsS, hST, hRT⟩ := strip_both hs
    have HST := hide hST
    have HRT := hide hRT
    have HSS := hide hsS
    have HTS : Hid (∀ w' u u', Nodes w' w'.heap.size u S → Nodes w' w'.heap.size u' S → Calls Tryz.prog 14 #[.agg #[u], .agg #[u']] w' fun e w'' => e = .returned (.bool true) ∧ Below w'.heap.size w' w'') := fun w' u u' h1 h2 => trees_same w' w'.heap.size u u' S h1 h2 (Nat.le_refl _)
    have HW1 := hide hW1
    have ecc : (c != c) = false := by simp
    clear ha hN hNn hB1 hW1 hz1 hs hST hRT hsS
    go_enter Tryz.func4, Tryz.ntmps4
    go_wp2_with (first
      | (go_at_call 6
         rw [unhide HW1]
         refine (unhide HG).mono ?_
         rintro e w1 ⟨rfl, hB1⟩
         have x1 := (unhide HBX w1 hB1).2.1
         have x2 := (unhide HBX w1 hB1).2.2
         have HB1 := hide hB1
         clear hB1)
      | (go_at_call 7
         refine (unhide HL w1 (unhide HB1)).mono ?_
         rintro e w2 ⟨g, cx, es, rfl, hmap, hown, hks, hb2⟩
         obtain ⟨W3, hW3⟩ : ∃ W3, w2.alloc (.cells #[.slice (some ⟨g, 0, none⟩) l.length cx] 24) = W3 := ⟨_, rfl⟩
         have H3' := hide (unhide H3 w1 w2 W3 g cx es (unhide HB1) hmap hown hks hb2 hW3)
         have HW3 := hide hW3
         clear hmap hown hks hb2 hW3 x1 x2)
      | (go_at_call_of 12 g
         rw [unhide HW3]
         refine (unhide HST W3 _ _ (unhide H3' W3 (Below.refl _ _)).2.2.2.2.2.1 (Nat.le_refl _)).mono ?_
         rintro e w4 ⟨v4, es4, rfl, hm4, ho4, hp4, hb4⟩
         obtain ⟨a4, c4, rfl⟩ := SA.form hm4 ho4.1
         have x1 := (unhide H3' w4 hb4).2.1
         have x2 := (unhide H3' w4 hb4).2.2.2.1
         obtain ⟨W5, hW5⟩ : ∃ W5, w4.alloc (.cells #[.slice a4 S.length c4] 24) = W5 := ⟨_, rfl⟩
         have HM4 := hide hm4
         have HO4 := hide ho4
         have HP4 := hide hp4
         have HB4 := hide hb4
         have HW5 := hide hW5
         clear hm4 ho4 hp4 hb4 hW5)
      | (go_at_call 13
         rw [unhide HW5]
         have hb45 : Below W3.heap.size W3 W5 := (unhide HB4).trans (by rw [← unhide HW5]; exact (Below.refl _ w4).alloc (unhide HB4).size _)
         refine (unhide HRT W5 M _ (unhide H3' W5 hb45).2.2.2.2.2.2.1 (Nat.le_trans hM (unhide H3' W5 hb45).1.size)).mono ?_
         clear hb45
         rintro e w6 ⟨v6, es6, rfl, hm6, ho6, hb6⟩
         obtain ⟨a6, c6, rfl⟩ := SA.form hm6 ho6.1
         obtain ⟨W7, hW7⟩ : ∃ W7, w6.alloc (.cells #[.slice a6 S.length c6] 24) = W7 := ⟨_, rfl⟩
         have F5 := hide (box3 (unhide HSS) (unhide HM4) (unhide HO4).ownN (unhide HB4) (unhide HW5))
         have F7 := hide (box3 (unhide HSS) hm6 ho6 hb6 hW7)
         have y1 := (unhide F5 w6 hb6).2.1
         have y2 := (unhide F5 w6 hb6).2.2.1
         have HM6 := hide hm6
         have HO6 := hide ho6
         have HB6 := hide hb6
         have HW7 := hide hW7
         clear hm6 ho6 hb6 hW7 x1 x2)
      | (go_at_call_of 14 a10
         refine (unhide HTS w12 _ _ (unhide F11 w12 (unhide HB12)).2.2.2.2.2.1 (unhide F11 w12 (unhide HB12)).2.2.2.2.2.2).mono ?_
         rintro e w13 ⟨rfl, hb13⟩
         have HB13 := hide ((unhide HB12).trans (hb13.mono (unhide HB12).size))
         clear hb13)
      | (go_at_call 14
         rw [unhide HW7]
         refine (unhide HTS W7 _ _ (unhide F5 W7 (unhide F7 W7 (Below.refl _ _)).1).2.2.2 (unhide F7 W7 (Below.refl _ _)).2.2.2).mono ?_
         rintro e w8 ⟨rfl, hb8⟩
         have z1 := (unhide F5 w8 (unhide F7 w8 hb8).1).2.1
         have z2 := (unhide F5 w8 (unhide F7 w8 hb8).1).2.2.1
         have HB8 := hide hb8
         clear hb8 y1 y2)
      | (go_at_call 15
         have h48 : Below w4.heap.size w4 w8 := (by
           have h45 : Below w4.heap.size w4 W5 := (by rw [← unhide HW5]; exact (Below.refl _ w4).alloc (Nat.le_refl _) _)
           exact h45.trans ((unhide F7 w8 (unhide HB8)).1.mono h45.size))
         have hl4 : es4.length ≤ 100000 := (by have h1 := (unhide HSS).1; have h2 := congrArg List.length (unhide HM4); rw [List.length_map] at h2; omega)
         have hk4 : ∀ e ∈ es4, e.x.kids.length ≤ 100000 := (fun e he => by have h1 := ((unhide HSS).2 e.x (by rw [← unhide HM4]; exact List.mem_map_of_mem he)).2; omega)
         refine (spoil5_any w4 w8 W3.heap.size _ es4 (unhide HO4) (unhide HP4) h48 (unhide HB4).size hl4 hk4).mono ?_
         clear h48 hl4 hk4
         rintro e w9 ⟨rfl, hout⟩
         obtain ⟨q1, q2, q3, q4, q5, q6⟩ := boxes9 (unhide HB4) (unhide HW5) (unhide HO6) (unhide HB6) (unhide HW7) (unhide HB8) hout
         have u1 := (unhide H3' w9 q1).2.1
         have u2 := (unhide H3' w9 q1).2.2.2.1
         have Q1 := hide q1
         have Q2 := hide q2
         have Q3 := hide q3
         have Q4 := hide q4
         have Q5 := hide q5
         clear hout q1 q2 q3 q4 q5 q6 z1 z2)
      | (go_at_call 12
         refine (unhide HST w9 M _ (unhide H3' w9 (unhide Q1)).2.2.2.2.2.2.1 (Nat.le_trans hM (unhide H3' w9 (unhide Q1)).1.size)).mono ?_
         rintro e w10 ⟨v10, es10, rfl, hm10, ho10, hp10, hb10⟩
         obtain ⟨a10, c10, rfl⟩ := SA.form hm10 ho10.1
         have hq10 := (hb10.block w4.heap.size (Array.getElem?_eq_some_iff.1 (unhide Q2)).1).trans (unhide Q2)
         have t1 : w10.cell? ⟨w4.heap.size, 0, none⟩ = some (.slice a4 S.length c4) := (by rw [Lib.cell_of_heap hq10]; rfl)
         have t2 : w10.frozen? ⟨w4.heap.size, 0, none⟩ = false := rfrozen_at hq10 0
         have t3 : w4.heap.size < w10.heap.size := (Array.getElem?_eq_some_iff.1 hq10).1
         obtain ⟨W11, hW11⟩ : ∃ W11, w10.setCell ⟨w4.heap.size, 0, none⟩ (.slice a10 S.length c10) = W11 := ⟨_, rfl⟩
         have hz5 : w4.heap.size < W5.heap.size := (by rw [← unhide HW5]; simp)
         have F11 := hide (boxes11 (unhide HSS) (unhide Q1) (unhide Q2) (unhide Q3) (unhide Q5) (unhide HB4).size hz5 (unhide Q4) (unhide HM6) ho10.ownN hm10 hb10 hW11)
         have B11 := hide (unhide F11 W11 (Below.refl _ _)).1
         have o1 := (unhide H3' W11 (unhide B11)).2.1
         have o2 := (unhide H3' W11 (unhide B11)).2.2.1
         have o3 := (unhide H3' W11 (unhide B11)).2.2.2.1
         have o4 := (unhide H3' W11 (unhide B11)).2.2.2.2.1
         clear hm10 ho10 hp10 hb10 hq10 hz5 u1 u2)
      | (go_at_call 10
         refine (unhide H3' W11 (unhide B11)).2.2.2.2.2.2.2.mono ?_
         rintro e w12 ⟨rfl, hb12⟩
         have p1 := (unhide F11 w12 hb12).2.1
         have p2 := (unhide F11 w12 hb12).2.2.1
         have p3 := (unhide F11 w12 hb12).2.2.2.1
         have p4 := (unhide F11 w12 hb12).2.2.2.2.1
         have HB12 := hide hb12
         clear hb12 o1 o2 o3 o4)
      | (go_at_call 11
         refine (known5_any _).mono ?_
         rintro e w14 ⟨rfl, hb14⟩))
    go_ret
    have hfin := (unhide F11 w14 ((unhide HB13).trans (hb14.mono (unhide HB13).size))).1
    exact ⟨rfl, (unhide H3' w14 hfin).1⟩
end Go.Proofs.YtnnpkomedpjlcaaGreatDoor

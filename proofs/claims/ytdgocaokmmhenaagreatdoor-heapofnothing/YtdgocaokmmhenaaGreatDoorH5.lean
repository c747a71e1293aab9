/- made, behind. -/
import Derived.Test.YtdgocaokmmhenaaGreatDoorH4
namespace Go.Proofs.YtdgocaokmmhenaaGreatDoor
set_option linter.unusedSimpArgs false
set_option linter.unusedVariables false
set_option maxRecDepth 100000
open Go.RowKit

variable {w W : World} {l : Ly} {hb : Nat} {H : PH}
/-- A kind as it counts. -/
def kdP (k : Int) : Nat := if k = 2 then 2 else if k = 3 then 3 else if k = 4 then 4 else 1
theorem kdP_range (k : Int) : 1 ≤ kdP k ∧ kdP k ≤ 4 := by unfold kdP; split; omega; split; omega; split <;> omega
def newCells (k : Nat) (bp : Value) : Array Value := if k = 2 then #[.slice none 0 0] else #[bp, .map none, .slice none 0 0]
/-- A new box of three cells. -/
theorem new3 (W : World) (x y z : Value) (t : Nat) : ∃ W2, W.alloc (.cells #[x, y, z] t) = W2 ∧ (W2.cell? ⟨W.heap.size, 0, none⟩ = some x ∧ W2.cell? ⟨W.heap.size, 1, none⟩ = some y ∧ W2.cell? ⟨W.heap.size, 2, none⟩ = some z ∧ W2.frozen? ⟨W.heap.size, 0, none⟩ = false ∧ W2.frozen? ⟨W.heap.size, 1, none⟩ = false ∧ W2.frozen? ⟨W.heap.size, 2, none⟩ = false) ∧ Bx W2 W.heap.size #[x, y, z] t ∧ Below W.heap.size W W2 ∧ W2.heap.size = W.heap.size + 1 := by
  have h := Bx.new W #[x, y, z] t
  exact ⟨_, rfl, ⟨h.cell 0 rfl, h.cell 1 rfl, h.cell 2 rfl, h.free 0, h.free 1, h.free 2⟩, h, below_one _ _, by simp⟩
theorem made_2 (p : Option Addr) (W : World) : Calls Tryz.prog 34 #[.int .i64 2, .pointer p] W fun e w' => ∃ g, e = .returned (.iface 109 (.pointer (some ⟨g, 0, none⟩))) ∧ Bx w' g #[.slice none 0 0] 115 ∧ W.heap.size ≤ g ∧ Below W.heap.size W w' := by
  obtain ⟨W2, hW2, ⟨c0, c1, c2, f0, f1, f2⟩, hx, hb, hz⟩ := new3 W (.pointer none) (.map none) (.slice none 0 0) 122
  have HX := hide hx
  have HB := hide hb
  have HZ := hide hz
  clear hx hb hz
  go_enter Tryz.func34, Tryz.ntmps34
  go_wp2
  go_ret
  have hz := unhide HZ
  refine ⟨_, rfl, ?_, by omega, ?_⟩
  · have := Bx.new (put3 W2 W.heap.size (.pointer p) (.map none) (.slice none 0 0)) #[.slice none 0 0] 115
    rw [size_put3] at this
    exact this
  · exact (below_put3 (unhide HB) (Nat.le_refl _) _ _ _).alloc (by rw [size_put3]; omega) _
theorem made_1 (k : Int) (h2 : k ≠ 2) (h3 : k ≠ 3) (h4 : k ≠ 4) (p : Option Addr) (W : World) : Calls Tryz.prog 34 #[.int .i64 k, .pointer p] W fun e w' => ∃ g, e = .returned (.iface 70 (.pointer (some ⟨g, 0, none⟩))) ∧ Bx w' g #[.pointer p, .map none, .slice none 0 0] 122 ∧ W.heap.size ≤ g ∧ Below W.heap.size W w' := by
  obtain ⟨W2, hW2, ⟨c0, c1, c2, f0, f1, f2⟩, hx, hb, hz⟩ := new3 W (.pointer none) (.map none) (.slice none 0 0) 122
  have HX := hide hx
  have HB := hide hb
  have HZ := hide hz
  clear hx hb hz
  have e2 : (k == 2) = false := by simp [h2]
  have e3 : (k == 3) = false := by simp [h3]
  have e4 : (k == 4) = false := by simp [h4]
  clear h2 h3 h4
  go_enter Tryz.func34, Tryz.ntmps34
  go_wp2
  go_ret
  have hz := unhide HZ
  exact ⟨_, rfl, Bx.puts (unhide HX) _ _ _, Nat.le_refl _, below_put3 (unhide HB) (Nat.le_refl _) _ _ _⟩
theorem made_3 (p : Option Addr) (W : World) : Calls Tryz.prog 34 #[.int .i64 3, .pointer p] W fun e w' => ∃ g, e = .returned (.iface 123 (.pointer (some ⟨g, 0, none⟩))) ∧ Bx w' g #[.pointer p, .map none, .slice none 0 0] 125 ∧ W.heap.size ≤ g ∧ Below W.heap.size W w' := by
  obtain ⟨W2, hW2, ⟨c0, c1, c2, f0, f1, f2⟩, hx, hb, hz⟩ := new3 W (.pointer none) (.map none) (.slice none 0 0) 122
  have HX := hide hx
  have HB := hide hb
  have HZ := hide hz
  clear hx hb hz
  go_enter Tryz.func34, Tryz.ntmps34
  go_wp2
  go_ret
  have hz := unhide HZ
  refine ⟨_, rfl, ?_, by omega, ?_⟩
  · have := Bx.new (put3 W2 W.heap.size (.pointer p) (.map none) (.slice none 0 0)) #[.pointer p, .map none, .slice none 0 0] 125
    rw [size_put3] at this
    exact this
  · exact (below_put3 (unhide HB) (Nat.le_refl _) _ _ _).alloc (by rw [size_put3]; omega) _
theorem made_4 (p : Option Addr) (W : World) : Calls Tryz.prog 34 #[.int .i64 4, .pointer p] W fun e w' => ∃ g, e = .returned (.iface 126 (.pointer (some ⟨g, 0, none⟩))) ∧ Bx w' g #[.pointer p, .map none, .slice none 0 0] 128 ∧ W.heap.size ≤ g ∧ Below W.heap.size W w' := by
  obtain ⟨W2, hW2, ⟨c0, c1, c2, f0, f1, f2⟩, hx, hb, hz⟩ := new3 W (.pointer none) (.map none) (.slice none 0 0) 122
  have HX := hide hx
  have HB := hide hb
  have HZ := hide hz
  clear hx hb hz
  go_enter Tryz.func34, Tryz.ntmps34
  go_wp2
  go_ret
  have hz := unhide HZ
  refine ⟨_, rfl, ?_, by omega, ?_⟩
  · have := Bx.new (put3 W2 W.heap.size (.pointer p) (.map none) (.slice none 0 0)) #[.pointer p, .map none, .slice none 0 0] 128
    rw [size_put3] at this
    exact this
  · exact (below_put3 (unhide HB) (Nat.le_refl _) _ _ _).alloc (by rw [size_put3]; omega) _
theorem made_any (k : Int) (p : Option Addr) (W : World) : Calls Tryz.prog 34 #[.int .i64 k, .pointer p] W fun e w' => ∃ g, e = .returned (.iface (tyP (kdP k)) (ptr g)) ∧ Bx w' g (newCells (kdP k) (.pointer p)) (tyB (kdP k)) ∧ W.heap.size ≤ g ∧ Below W.heap.size W w' := by
  by_cases h2 : k = 2
  · subst h2; exact made_2 p W
  by_cases h3 : k = 3
  · subst h3; exact made_3 p W
  by_cases h4 : k = 4
  · subst h4; exact made_4 p W
  have e : kdP k = 1 := by simp [kdP, h2, h3, h4]
  rw [e]
  exact made_1 k h2 h3 h4 p W
/-- What a proto lays behind a thing. -/
def behP (H : PH) (n : Int) : Option Nat := if kindP H n = 1 ∨ kindP H n = 4 then some n.toNat else none
theorem Kind_any (h : HAt W l hb H) (n : Int) : Calls Tryz.prog 28 #[ptr hb, .int .i64 n] W fun e w' => e = .returned (.int .i64 (kindP H n)) ∧ Below W.heap.size W w' := by
  unfold kindP
  by_cases hn : n < 0
  · rw [if_pos hn]
    have HT := hide (thing_out h n (.inl hn))
    unfold ptr at HT ⊢
    clear h hn
    go_enter Tryz.func28, Tryz.ntmps28
    go_wp2_with (first | (go_at_call 61; refine (unhide HT).mono ?_; rintro e' w1 ⟨rfl, hb1⟩))
    go_ret
    exact ⟨rfl, hb1⟩
  · rw [if_neg hn]
    cases hi : H.ths[n.toNat]? with
    | none =>
      have HT := hide (thing_out h n (.inr (by have := List.getElem?_eq_none_iff.1 hi; omega)))
      unfold ptr at HT ⊢
      clear h hn hi
      go_enter Tryz.func28, Tryz.ntmps28
      go_wp2_with (first | (go_at_call 61; refine (unhide HT).mono ?_; rintro e' w1 ⟨rfl, hb1⟩))
      go_ret
      exact ⟨rfl, hb1⟩
    | some t =>
      have := Kind_in h n.toNat t hi
      rwa [Int.toNat_of_nonneg (by omega)] at this
theorem bpv_form (l : Ly) (o : Option Nat) : ∃ p, bpv l o = .pointer p := by cases o <;> exact ⟨_, rfl⟩
theorem behind_no (h : HAt W l hb H) (n : Int) (k : Int) (hk : kindP H n = k) (h1 : k ≠ 1) (h4 : k ≠ 4) : Calls Tryz.prog 35 #[ptr hb, .int .i64 n] W fun e w' => e = .returned (.pointer none) ∧ Below W.heap.size W w' := by
  have HT := hide (Kind_any h n)
  rw [hk] at HT
  have e1 : (k == 1) = false := by simp [h1]
  have e4 : (k == 4) = false := by simp [h4]
  unfold ptr at HT ⊢
  clear h hk h1 h4
  go_enter Tryz.func35, Tryz.ntmps35
  go_wp2_with (first | (go_at_call 28; refine (unhide HT).mono ?_; rintro e' w1 ⟨rfl, hb1⟩; have HB1 := hide hb1; clear hb1))
  go_ret
  exact ⟨rfl, unhide HB1⟩
theorem behind_yes (h : HAt W l hb H) (i : Nat) (t : Th) (hi : H.ths[i]? = some t) (hk : t.kind = 1 ∨ t.kind = 4) : Calls Tryz.prog 35 #[ptr hb, .int .i64 i] W fun e w' => e = .returned (ptr (l.bx i)) ∧ Below W.heap.size W w' := by
  have HT := hide (Kind_in h i t hi)
  have HH := hide h
  have hm := h.len
  have hl := (List.getElem?_eq_some_iff.1 hi).1
  obtain ⟨b, hbx⟩ : ∃ b, l.bx i = b := ⟨_, rfl⟩
  have m1 : ∀ w, (method 290 70 (.pointer (some ⟨b, 0, none⟩)) "shuck/heap.own").run Tryz.prog w = .ok (116, .pointer (some ⟨b, 0, none⟩)) w := fun _ => by kernel_rfl
  have m4 : ∀ w, (method 290 126 (.pointer (some ⟨b, 0, none⟩)) "shuck/heap.own").run Tryz.prog w = .ok (116, .pointer (some ⟨b, 0, none⟩)) w := fun _ => by kernel_rfl
  have HO : Hid (∀ w, Calls Tryz.prog 116 #[.pointer (some ⟨b, 0, none⟩)] w fun e w' => e = .returned (.pointer (some ⟨b, 0, none⟩)) ∧ Below w.heap.size w w') := fun w => own82 b w
  have HC : Hid (∀ w1, Below W.heap.size W w1 → ∃ g c, w1.cell? ⟨hb, 2, none⟩ = some (.slice (some ⟨g, 0, none⟩) H.ths.length c) ∧ w1.cell? ⟨g, i, none⟩ = some (.iface (tyP t.kind) (.pointer (some ⟨b, 0, none⟩)))) := fun w1 hb1 => by
    obtain ⟨a, c, _, _, c2, _, hc⟩ := (h.below hb1).cells
    obtain ⟨g, rfl, cg⟩ := hc i t hi
    exact ⟨g, c, c2, by rw [cg]; simp [ifv, ptr, hbx]⟩
  rw [hbx]
  clear h hi hbx
  unfold ptr at HT ⊢
  rcases hk with e | e
  all_goals
    rw [e] at HT HC
    simp only [show tyP 1 = 70 from rfl, show tyP 4 = 126 from rfl] at HC
    go_enter Tryz.func35, Tryz.ntmps35
    go_wp2_with (first | (go_at_call 28; refine (unhide HT).mono ?_; rintro e' w1 ⟨rfl, hb1⟩; obtain ⟨g, c, d2, dg⟩ := unhide HC w1 hb1; have HB1 := hide hb1; clear hb1) | (go_at_call 116; refine (unhide HO _).mono ?_; rintro e' w2 ⟨rfl, hb2⟩; have HB2 := hide (hb2); clear hb2))
    go_ret
    exact ⟨rfl, (unhide HB1).trans ((unhide HB2).mono (unhide HB1).size)⟩
theorem kindP_some (H : PH) (n : Int) (h : kindP H n ≠ 0) : ∃ i t, n = (i : Nat) ∧ H.ths[i]? = some t ∧ kindP H n = t.kind := by
  unfold kindP at h ⊢
  split at h
  · exact absurd rfl h
  · rename_i hn
    split at h
    · exact absurd rfl h
    · rename_i t ht
      refine ⟨n.toNat, t, by omega, ht, ?_⟩
      exact if_neg hn
theorem behind_any (h : HAt W l hb H) (n : Int) : Calls Tryz.prog 35 #[ptr hb, .int .i64 n] W fun e w' => e = .returned (bpv l (behP H n)) ∧ Below W.heap.size W w' := by
  unfold behP
  by_cases hk : kindP H n = 1 ∨ kindP H n = 4
  · rw [if_pos hk]
    obtain ⟨i, t, rfl, hi, hkt⟩ := kindP_some H n (by omega)
    rw [hkt] at hk
    exact behind_yes h i t hi (by omega)
  · rw [if_neg hk]
    exact behind_no h n _ rfl (fun e => hk (.inl e)) (fun e => hk (.inr e))
end Go.Proofs.YtdgocaokmmhenaaGreatDoor

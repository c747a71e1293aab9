/- Push, Len; a value of an array by its number. -/
import Derived.Test.YtdgocaokmmhenaaGreatDoorH8
namespace Go.Proofs.YtdgocaokmmhenaaGreatDoor
set_option linter.unusedSimpArgs false
set_option linter.unusedVariables false
set_option maxRecDepth 100000
set_option maxHeartbeats 2000000
open Go.RowKit Go.Shelf

variable {w W : World} {l : Ly} {hb : Nat} {H : PH}
theorem flat_len (vs : List PV) : (vs.flatMap PV.cells).length = vs.length * 3 := by
  induction vs with
  | nil => rfl
  | cons v vs ih => simp [PV.cells, ih]; omega
theorem flat_get : ∀ (vs : List PV) (m : Nat) (v : PV), vs[m]? = some v → (vs.flatMap PV.cells)[m * 3]? = some (.int .i64 v.k) ∧ (vs.flatMap PV.cells)[m * 3 + 1]? = some (.int .i64 v.n) ∧ (vs.flatMap PV.cells)[m * 3 + 2]? = some (.string v.t)
  | [], m, v, h => by simp at h
  | u :: vs, 0, v, h => by
    simp at h; subst h
    simp [PV.cells]
  | u :: vs, m + 1, v, h => by
    have := flat_get vs m v (by simpa using h)
    have e : ∀ j, (PV.cells u ++ vs.flatMap PV.cells)[(m + 1) * 3 + j]? = (vs.flatMap PV.cells)[m * 3 + j]? := fun j => by
      rw [List.getElem?_append_right (by simp [PV.cells]; omega)]
      congr 1
      simp [PV.cells]; omega
    simp only [List.flatMap_cons]
    exact ⟨(e 0).trans this.1, (e 1).trans this.2.1, (e 2).trans this.2.2⟩
/-- An array's cells. -/
theorem ArAt.cells {i : Nat} {t : Th} {sv : Value} (h : ArAt W l i t sv) : ∃ (a : Option Addr) (c : Nat), sv = .slice a t.vals.length c ∧ W.cell? ⟨l.bx i, 0, none⟩ = some (.slice a t.vals.length c) ∧
    (∀ m v, t.vals[m]? = some v → ∃ g, a = some ⟨g, 0, none⟩ ∧ W.cell? ⟨g, m * 3, none⟩ = some (.int .i64 v.k) ∧ W.cell? ⟨g, m * 3 + 1, none⟩ = some (.int .i64 v.n) ∧ W.cell? ⟨g, m * 3 + 2, none⟩ = some (.string v.t)) := by
  have hbx := h.box
  obtain ⟨hlen, h2⟩ := h.row
  rcases h2 with ⟨rfl, h0⟩ | ⟨g, cap, cur, rfl, _, hg, hn, _, hs, ht⟩
  · refine ⟨none, 0, by rw [h0], by rw [h0]; exact hbx.cell 0 rfl, fun m v hm => ?_⟩
    have := (List.getElem?_eq_some_iff.1 hm).1
    omega
  · refine ⟨some ⟨g, 0, none⟩, cap, rfl, hbx.cell 0 rfl, fun m v hm => ⟨g, rfl, ?_⟩⟩
    have hml := (List.getElem?_eq_some_iff.1 hm).1
    have key : ∀ j x, j < 3 → (t.vals.flatMap PV.cells)[m * 3 + j]? = some x → W.cell? ⟨g, m * 3 + j, none⟩ = some x := fun j x hj hx => by
      rw [← ht, List.getElem?_take, if_pos (by omega)] at hx
      rw [cell_of_row W g (m * 3 + j) cur 23 (0, 0) hg]
      simpa using hx
    obtain ⟨e0, e1, e2⟩ := flat_get t.vals m v hm
    exact ⟨key 0 _ (by omega) e0, key 1 _ (by omega) e1, key 2 _ (by omega) e2⟩
def atP (vs : List PV) (m : Int) : PV := if m < 0 then PV.und else (vs[m.toNat]?).getD PV.und
theorem at_no (h : HAt W l hb H) (i : Nat) (t : Th) (hi : H.ths[i]? = some t) (hk : t.kind = 2) (m : Int) (hm : m < 0 ∨ t.vals.length ≤ m) : Calls Tryz.prog 58 #[ptr (l.bx i), .int .i64 m] W fun e w' => e = .returned PV.und.agg ∧ Below W.heap.size W w' := by
  obtain ⟨_, _, sv, har⟩ := (h.th i t hi).arr hk
  obtain ⟨W2, hW2, b2, hb2, hz⟩ := one_box W
  have B2 := hide b2
  have HB := hide hb2
  have HZ := hide hz
  obtain ⟨d0, d1, d2, g0, g1, g2, lt'⟩ := b2.all
  have har2 : ArAt W2 l i t sv := by
    have h2 := h.below hb2
    exact har.keep rfl (fun k hk' _ => hb2.block k hk') (fun _ _ => rfl) (h.th i t hi).lb
  obtain ⟨a, c, _, c0, hc⟩ := har2.cells
  obtain ⟨b, hbb⟩ : ∃ b, l.bx i = b := ⟨_, rfl⟩
  rw [hbb] at c0 ⊢
  unfold PV.agg PV.und ptr
  clear h har har2 hc b2 hb2 hz hi
  by_cases e1 : m < 0
  · unfold Vc
    go_enter Tryz.func58, Tryz.ntmps58
    go_wp2
    exact ret_v Tryz.results58 rfl (unhide B2) rfl (unhide HB) (by omega) rfl
  · have e2 : (t.vals.length : Int) ≤ m := by omega
    clear hm
    unfold Vc
    go_enter Tryz.func58, Tryz.ntmps58
    go_wp2
    exact ret_v Tryz.results58 rfl (unhide B2) rfl (unhide HB) (by omega) rfl
theorem at_yes (h : HAt W l hb H) (i : Nat) (t : Th) (hi : H.ths[i]? = some t) (hk : t.kind = 2) (m : Nat) (v : PV) (hm : t.vals[m]? = some v) : Calls Tryz.prog 58 #[ptr (l.bx i), .int .i64 m] W fun e w' => e = .returned v.agg ∧ Below W.heap.size W w' := by
  obtain ⟨_, _, sv, har⟩ := (h.th i t hi).arr hk
  obtain ⟨W2, hW2, b2, hb2, hz⟩ := one_box W
  have B2 := hide b2
  have HB := hide hb2
  have HZ := hide hz
  obtain ⟨d0, d1, d2, g0, g1, g2, lt'⟩ := b2.all
  have har2 : ArAt W2 l i t sv := by
    exact har.keep rfl (fun k hk' _ => hb2.block k hk') (fun _ _ => rfl) (h.th i t hi).lb
  obtain ⟨a, c, _, c0, hc⟩ := har2.cells
  obtain ⟨g, rfl, v0, v1, v2⟩ := hc m v hm
  have hml := (List.getElem?_eq_some_iff.1 hm).1
  have e1 : decide ((m : Int) < 0) = false := by simp
  have e2 : decide ((t.vals.length : Int) ≤ m) = false := by simp; omega
  have hvl : t.vals.length ≤ 1048576 := by
    have e := cells_at H.ths i t hi
    have := h.room
    have := h.used
    have := h.sum
    unfold cellsT at e
    omega
  obtain ⟨b, hbb⟩ : ∃ b, l.bx i = b := ⟨_, rfl⟩
  rw [hbb] at c0 ⊢
  unfold PV.agg Vc ptr
  clear h har har2 hc b2 hb2 hz hi hm hk hbb
  go_enter Tryz.func58, Tryz.ntmps58
  go_wp2

  exact ret_v Tryz.results58 rfl (unhide B2) rfl (unhide HB) (by omega) rfl
theorem at_any (h : HAt W l hb H) (i : Nat) (t : Th) (hi : H.ths[i]? = some t) (hk : t.kind = 2) (m : Int) : Calls Tryz.prog 58 #[ptr (l.bx i), .int .i64 m] W fun e w' => e = .returned (atP t.vals m).agg ∧ Below W.heap.size W w' := by
  unfold atP
  by_cases hm : m < 0
  · rw [if_pos hm]; exact at_no h i t hi hk m (.inl hm)
  · rw [if_neg hm]
    cases hv : t.vals[m.toNat]? with
    | none => exact at_no h i t hi hk m (.inr (by have := List.getElem?_eq_none_iff.1 hv; omega))
    | some v =>
      have := at_yes h i t hi hk m.toNat v hv
      rwa [Int.toNat_of_nonneg (by omega)] at this
theorem vals_len (h : HAt W l hb H) {i : Nat} {t : Th} (hi : H.ths[i]? = some t) : t.vals.length ≤ 1048576 ∧ t.slots.length ≤ 1048576 := by
  have e := cells_at H.ths i t hi
  have := h.room
  have := h.used
  have := h.sum
  unfold cellsT at e
  omega
theorem Len_arr (h : HAt W l hb H) (i : Nat) (t : Th) (hi : H.ths[i]? = some t) (hk : t.kind = 2) : Calls Tryz.prog 26 #[ptr hb, .int .i64 i] W fun e w' => e = .returned (.int .i64 t.vals.length) ∧ Below W.heap.size W w' := by
  have HT := hide (array_yes h i t hi hk ⟨#[]⟩)
  have HH := hide h
  obtain ⟨b, hbb⟩ : ∃ b, l.bx i = b := ⟨_, rfl⟩
  have HC : Hid (∀ w1, Below W.heap.size W w1 → ∃ a c, w1.cell? ⟨b, 0, none⟩ = some (.slice a t.vals.length c)) := fun w1 hb1 => by
    obtain ⟨_, _, sv, har⟩ := ((h.below hb1).th i t hi).arr hk
    obtain ⟨a, c, _, c0, _⟩ := har.cells
    rw [hbb] at c0
    exact ⟨a, c, c0⟩
  have hvl := (vals_len h hi).1
  rw [hbb] at HT
  unfold Vc at HT
  unfold ptr at HT ⊢
  clear h hi hk hbb
  go_enter Tryz.func26, Tryz.ntmps26
  go_wp2_with (first | (go_at_call 57; refine (unhide HT).mono ?_; rintro e' w1 ⟨rfl, hb1⟩; obtain ⟨a, c, c0⟩ := unhide HC w1 hb1))
  go_ret
  exact ⟨rfl, hb1⟩
/-- A value more by Push. -/
theorem Push_ok (h : HAt W l hb H) (hc : cellsH H.ths ≤ H.used) (hf : H.used < H.room) (i : Nat) (t : Th) (hi : H.ths[i]? = some t) (hk : t.kind = 2) (v : PV) (hv : v.t.size ≤ 281474976710656) : Calls Tryz.prog 24 #[ptr hb, .int .i64 i, v.agg] W fun e w' => e = .returned (.tuple #[.int .i64 ((t.vals.length : Int) + 1), .int .i64 0]) ∧ ∃ l', HAt w' l' hb (H.lay i t v) ∧ St l.L l'.L W w' ∧ l'.bx = l.bx := by
  obtain ⟨W0, hW0⟩ : ∃ W0, W.alloc (.cells #[.int .i64 v.k, .int .i64 v.n, .string v.t] 23) = W0 := ⟨_, rfl⟩
  have hb0 : Below W.heap.size W W0 := by rw [← hW0]; exact below_one _ _
  have hx0 : Bv W0 W.heap.size v.k v.n v.t := by rw [← hW0]; exact Bx.new _ _ _
  have HA := hide (array_yes (h.below hb0) i t hi hk ⟨#[]⟩)
  have HX0 := hide hx0
  have HB0 := hide hb0
  have HL : Hid (∀ w1, Below W.heap.size W w1 → Calls Tryz.prog 60 #[ptr hb, ptr (l.bx i), v.agg] w1 fun e w' => e = .returned (.int .i64 0) ∧ ∃ l', HAt w' l' hb (H.lay i t v) ∧ St l.L l'.L w1 w' ∧ l'.bx = l.bx) := fun w1 hb1 => lay_ok (h.below hb1) hc hf i t hi hk v hv
  have hil := (List.getElem?_eq_some_iff.1 hi).1
  have hkin : (H.lay i t v).ths[i]? = some ⟨t.kind, t.beh, t.slots, t.vals ++ [stl H v]⟩ := List.getElem?_set_self hil
  obtain ⟨b, hbb⟩ : ∃ b, l.bx i = b := ⟨_, rfl⟩
  have HC : Hid (∀ w1 l', HAt w1 l' hb (H.lay i t v) → l'.bx = l.bx → ∃ a c, w1.cell? ⟨b, 0, none⟩ = some (.slice a (t.vals.length + 1) c)) := fun w1 l' h1 hbx => by
    obtain ⟨_, _, sv, har⟩ := (h1.th i _ hkin).arr hk
    obtain ⟨a, c, _, c0, _⟩ := har.cells
    rw [hbx, hbb] at c0
    simp at c0
    exact ⟨a, c, c0⟩
  have hvl := (vals_len h hi).1
  rw [hbb] at HA HL
  unfold PV.agg at HL ⊢
  unfold Vc at HA HL ⊢
  unfold ptr at HA HL ⊢
  clear h hi hk hbb hb0 hx0 hkin
  go_enter Tryz.func24, Tryz.ntmps24
  go_wp2_with (first
    | (go_at_call 57; refine (unhide HA).mono ?_; rintro e' w1 ⟨rfl, hb1⟩; obtain ⟨c0, c1, c2, f0, f1, f2, lt⟩ := (Bv.below (unhide HX0) hb1 (Bx.lt (unhide HX0))).all; have HB1 := hide (Below.up (unhide HB0) hb1); clear hb1)
    | (go_at_call 60; refine (unhide HL _ (unhide HB1)).mono ?_; rintro e' w2 ⟨rfl, l', h2, hs2, hbx2⟩; obtain ⟨a, c, c0⟩ := unhide HC w2 l' h2 hbx2; have H2 := hide h2; have S2 := hide hs2; have X2 := hide hbx2; clear h2 hs2 hbx2))
  refine bodyPost_ret (by simp [results, Tryz.results24, go_sem]) rfl ⟨rfl, l', unhide H2, (St.of_below (unhide HB1)).trans (unhide S2), unhide X2⟩
end Go.Proofs.YtdgocaokmmhenaaGreatDoor

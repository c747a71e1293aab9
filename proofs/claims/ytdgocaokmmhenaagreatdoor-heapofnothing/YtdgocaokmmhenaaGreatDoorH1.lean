/- The heap's readers: thing, thingOf, Kind, object, array. -/
import Derived.Test.YtdgocaokmmhenaaGreatDoorH0
namespace Go.Proofs.YtdgocaokmmhenaaGreatDoor
set_option linter.unusedSimpArgs false
set_option linter.unusedVariables false
set_option maxRecDepth 100000
open Go.RowKit

variable {w W : World} {l : Ly} {hb : Nat} {H : PH}
theorem ifs_get (l : Ly) (ths : List Th) (i : Nat) : (ifs l ths)[i]? = ths[i]?.map (ifv l i) := by simp [ifs]
theorem ifs_len (l : Ly) (ths : List Th) : (ifs l ths).length = ths.length := by simp [ifs]
/-- The heap's cells. -/
theorem HAt.cells (h : HAt w l hb H) : ∃ (a : Option Addr) (c : Nat), w.cell? ⟨hb, 0, none⟩ = some (.int .i64 H.room) ∧ w.cell? ⟨hb, 1, none⟩ = some (.int .i64 H.used) ∧ w.cell? ⟨hb, 2, none⟩ = some (.slice a H.ths.length c) ∧ (∀ i, w.frozen? ⟨hb, i, none⟩ = false) ∧
    (∀ i t, H.ths[i]? = some t → ∃ g, a = some ⟨g, 0, none⟩ ∧ w.cell? ⟨g, i, none⟩ = some (ifv l i t)) := by
  obtain ⟨sv, hbx, hrow, _⟩ := h.box
  obtain ⟨hlen, h2⟩ := hrow
  rcases h2 with ⟨rfl, h0⟩ | ⟨g, cap, cur, rfl, _, hg, hn, _, hs, ht⟩
  · refine ⟨none, 0, hbx.cell 0 rfl, hbx.cell 1 rfl, by rw [h0]; exact hbx.cell 2 rfl, fun i => hbx.free i, fun i t ht => ?_⟩
    have := (List.getElem?_eq_some_iff.1 ht).1
    omega
  · refine ⟨some ⟨g, 0, none⟩, cap, hbx.cell 0 rfl, hbx.cell 1 rfl, hbx.cell 2 rfl, fun i => hbx.free i, fun i t hi => ⟨g, rfl, ?_⟩⟩
    have e := ifs_get l H.ths i
    rw [hi, ← ht, List.getElem?_take] at e
    split at e
    · rw [cell_of_row w g i cur 68 (0, 0) hg]
      simpa using e
    · simp at e
theorem HAt.len (h : HAt w l hb H) : H.ths.length ≤ 1048576 := by
  have := cells_len H.ths
  have := h.sum
  have := h.used
  have := h.room
  omega
theorem HAt.lt (h : HAt w l hb H) : hb < w.heap.size := by
  obtain ⟨sv, hbx, _⟩ := h.box
  exact hbx.lt
/-- A thing by its number. -/
theorem thing_in (h : HAt W l hb H) (i : Nat) (t : Th) (hi : H.ths[i]? = some t) : Calls Tryz.prog 61 #[ptr hb, .int .i64 i] W fun e w' => e = .returned (.tuple #[ifv l i t, .bool true]) ∧ Below W.heap.size W w' := by
  obtain ⟨a, c, c0, c1, c2, fr, hc⟩ := h.cells
  obtain ⟨g, rfl, cg⟩ := hc i t hi
  have hl := (List.getElem?_eq_some_iff.1 hi).1
  have hm := h.len
  have e1 : decide ((i : Int) < 0) = false := by simp
  have e2 : decide ((H.ths.length : Int) ≤ i) = false := by simp; omega
  unfold ptr ifv at *
  unfold ptr at *
  clear hc h hi
  go_enter Tryz.func61, Tryz.ntmps61
  go_wp2
  refine bodyPost_ret (by simp [results, Tryz.results61, go_sem]; rfl) rfl ?_
  exact ⟨rfl, Below.refl _ _⟩
theorem thing_out (h : HAt W l hb H) (n : Int) (hn : n < 0 ∨ H.ths.length ≤ n) : Calls Tryz.prog 61 #[ptr hb, .int .i64 n] W fun e w' => e = .returned (.tuple #[.nilIface, .bool false]) ∧ Below W.heap.size W w' := by
  obtain ⟨a, c, c0, c1, c2, fr, hc⟩ := h.cells
  have hm := h.len
  unfold ptr at *
  clear hc h
  by_cases e1 : n < 0
  · go_enter Tryz.func61, Tryz.ntmps61
    go_wp2
    refine bodyPost_ret (by simp [results, Tryz.results61, go_sem]; rfl) rfl ?_
    exact ⟨rfl, Below.refl _ _⟩
  · have e2 : (H.ths.length : Int) ≤ n := by omega
    clear hn
    go_enter Tryz.func61, Tryz.ntmps61
    go_wp2
    refine bodyPost_ret (by simp [results, Tryz.results61, go_sem]; rfl) rfl ?_
    exact ⟨rfl, Below.refl _ _⟩
/-- What a number stands for. -/
def thR (l : Ly) (H : PH) (n : Int) : Value := if n < 0 then .tuple #[.nilIface, .bool false] else match H.ths[n.toNat]? with
  | none => .tuple #[.nilIface, .bool false]
  | some t => .tuple #[ifv l n.toNat t, .bool true]
theorem thing_any (h : HAt W l hb H) (n : Int) : Calls Tryz.prog 61 #[ptr hb, .int .i64 n] W fun e w' => e = .returned (thR l H n) ∧ Below W.heap.size W w' := by
  unfold thR
  by_cases hn : n < 0
  · rw [if_pos hn]; exact thing_out h n (.inl hn)
  · rw [if_neg hn]
    cases hi : H.ths[n.toNat]? with
    | none => exact thing_out h n (.inr (by have := List.getElem?_eq_none_iff.1 hi; omega))
    | some t =>
      have := thing_in h n.toNat t hi
      rwa [Int.toNat_of_nonneg (by omega)] at this
/-- A thing's own members: none of an array. -/
theorem own82 (b : Nat) (W : World) : Calls Tryz.prog 116 #[ptr b] W fun e w' => e = .returned (ptr b) ∧ Below W.heap.size W w' := by
  unfold ptr
  go_enter Tryz.func116, Tryz.ntmps116
  go_wp2
  go_ret
  exact ⟨rfl, Below.refl _ _⟩
theorem own105 (b : Nat) (W : World) : Calls Tryz.prog 140 #[ptr b] W fun e w' => e = .returned (.pointer none) ∧ Below W.heap.size W w' := by
  unfold ptr
  go_enter Tryz.func140, Tryz.ntmps140
  go_wp2
  go_ret
  exact ⟨rfl, Below.refl _ _⟩
theorem kind81 (b : Nat) (W : World) : Calls Tryz.prog 115 #[ptr b] W fun e w' => e = .returned (.int .i64 1) ∧ Below W.heap.size W w' := by
  unfold ptr
  go_enter Tryz.func115, Tryz.ntmps115
  go_wp2
  go_ret
  exact ⟨rfl, Below.refl _ _⟩
theorem kind104 (b : Nat) (W : World) : Calls Tryz.prog 139 #[ptr b] W fun e w' => e = .returned (.int .i64 2) ∧ Below W.heap.size W w' := by
  unfold ptr
  go_enter Tryz.func139, Tryz.ntmps139
  go_wp2
  go_ret
  exact ⟨rfl, Below.refl _ _⟩
theorem kind111 (b : Nat) (W : World) : Calls Tryz.prog 145 #[ptr b] W fun e w' => e = .returned (.int .i64 3) ∧ Below W.heap.size W w' := by
  unfold ptr
  go_enter Tryz.func145, Tryz.ntmps145
  go_wp2
  go_ret
  exact ⟨rfl, Below.refl _ _⟩
theorem kind114 (b : Nat) (W : World) : Calls Tryz.prog 148 #[ptr b] W fun e w' => e = .returned (.int .i64 4) ∧ Below W.heap.size W w' := by
  unfold ptr
  go_enter Tryz.func148, Tryz.ntmps148
  go_wp2
  go_ret
  exact ⟨rfl, Below.refl _ _⟩
/-- A thing's kind; 0: there is none. -/
def kindP (H : PH) (n : Int) : Int := if n < 0 then 0 else match H.ths[n.toNat]? with
  | none => 0
  | some t => (t.kind : Int)
theorem Kind_in (h : HAt W l hb H) (i : Nat) (t : Th) (hi : H.ths[i]? = some t) : Calls Tryz.prog 28 #[ptr hb, .int .i64 i] W fun e w' => e = .returned (.int .i64 t.kind) ∧ Below W.heap.size W w' := by
  have HT := hide (thing_in h i t hi)
  have hk := (h.th i t hi).kd
  obtain ⟨b, hbx⟩ : ∃ b, l.bx i = b := ⟨_, rfl⟩
  unfold ifv at HT
  rw [hbx] at HT
  clear h hi
  have m1 : ∀ w, (method 290 70 (.pointer (some ⟨b, 0, none⟩)) "shuck/heap.kind").run Tryz.prog w = .ok (115, .pointer (some ⟨b, 0, none⟩)) w := fun _ => by kernel_rfl
  have m2 : ∀ w, (method 290 109 (.pointer (some ⟨b, 0, none⟩)) "shuck/heap.kind").run Tryz.prog w = .ok (139, .pointer (some ⟨b, 0, none⟩)) w := fun _ => by kernel_rfl
  have m3 : ∀ w, (method 290 123 (.pointer (some ⟨b, 0, none⟩)) "shuck/heap.kind").run Tryz.prog w = .ok (145, .pointer (some ⟨b, 0, none⟩)) w := fun _ => by kernel_rfl
  have m4 : ∀ w, (method 290 126 (.pointer (some ⟨b, 0, none⟩)) "shuck/heap.kind").run Tryz.prog w = .ok (148, .pointer (some ⟨b, 0, none⟩)) w := fun _ => by kernel_rfl
  have hk' : t.kind = 1 ∨ t.kind = 2 ∨ t.kind = 3 ∨ t.kind = 4 := by omega
  rcases hk' with e | e | e | e
  · rw [e, show tyP 1 = 70 from rfl] at HT
    rw [e]
    unfold ptr at HT ⊢
    clear m2 m3 m4
    go_enter Tryz.func28, Tryz.ntmps28
    go_wp2_with (first | (go_at_call 61; refine (unhide HT).mono ?_; rintro e' w1 ⟨rfl, hb1⟩; have HB1 := hide hb1; clear hb1) | (go_at_call 115; refine (kind81 _ _).mono ?_; rintro e' w2 ⟨rfl, hb2⟩))
    go_ret
    exact ⟨rfl, (unhide HB1).trans (hb2.mono (unhide HB1).size)⟩
  · rw [e, show tyP 2 = 109 from rfl] at HT
    rw [e]
    unfold ptr at HT ⊢
    clear m1 m3 m4
    go_enter Tryz.func28, Tryz.ntmps28
    go_wp2_with (first | (go_at_call 61; refine (unhide HT).mono ?_; rintro e' w1 ⟨rfl, hb1⟩; have HB1 := hide hb1; clear hb1) | (go_at_call 139; refine (kind104 _ _).mono ?_; rintro e' w2 ⟨rfl, hb2⟩))
    go_ret
    exact ⟨rfl, (unhide HB1).trans (hb2.mono (unhide HB1).size)⟩
  · rw [e, show tyP 3 = 123 from rfl] at HT
    rw [e]
    unfold ptr at HT ⊢
    clear m1 m2 m4
    go_enter Tryz.func28, Tryz.ntmps28
    go_wp2_with (first | (go_at_call 61; refine (unhide HT).mono ?_; rintro e' w1 ⟨rfl, hb1⟩; have HB1 := hide hb1; clear hb1) | (go_at_call 145; refine (kind111 _ _).mono ?_; rintro e' w2 ⟨rfl, hb2⟩))
    go_ret
    exact ⟨rfl, (unhide HB1).trans (hb2.mono (unhide HB1).size)⟩
  · rw [e, show tyP 4 = 126 from rfl] at HT
    rw [e]
    unfold ptr at HT ⊢
    clear m1 m2 m3
    go_enter Tryz.func28, Tryz.ntmps28
    go_wp2_with (first | (go_at_call 61; refine (unhide HT).mono ?_; rintro e' w1 ⟨rfl, hb1⟩; have HB1 := hide hb1; clear hb1) | (go_at_call 148; refine (kind114 _ _).mono ?_; rintro e' w2 ⟨rfl, hb2⟩))
    go_ret
    exact ⟨rfl, (unhide HB1).trans (hb2.mono (unhide HB1).size)⟩
end Go.Proofs.YtdgocaokmmhenaaGreatDoor

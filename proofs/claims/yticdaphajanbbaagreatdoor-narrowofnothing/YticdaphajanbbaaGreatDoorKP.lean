/- A new arena has the ten. -/
import Derived.Test.YticdaphajanbbaaGreatDoorKO
namespace Go.Proofs.YticdaphajanbbaaGreatDoor
set_option linter.unusedSimpArgs false
set_option linter.unusedVariables false
set_option maxRecDepth 100000
set_option maxHeartbeats 4000000
open Go.RowKit Go.Shelf

variable {P : Program} {lo M : Nat} {mo : Option Nat} {dv : Value} {L : List Kt} {W : World}
def bareKt (k : Nat) : Kt := ⟨(k : Int), 0, ⟨#[]⟩, [], [], [], bareW k, 1⟩
def tenL (n : Nat) : List Kt := (List.range n).map fun i => bareKt (i + 1)
theorem tenL_succ (n : Nat) : tenL (n + 1) = tenL n ++ [bareKt (n + 1)] := by simp [tenL, List.range_succ]
theorem tenL_len (n : Nat) : (tenL n).length = n := by simp [tenL]
theorem ten_new (n : Nat) (h : n < 10) : pos (tenL n) (bareW (n + 1)) = none := by
  have : ∀ m : Fin 10, pos (tenL m.1) (bareW (m.1 + 1)) = none := by decide +kernel
  exact this ⟨n, h⟩
theorem ten_sz (n : Nat) : SzOk (tenL n) := fun k hk => by
  simp only [tenL, List.mem_map] at hk
  obtain ⟨i, _, rfl⟩ := hk
  exact ⟨by simp [bareKt], by simp [bareKt]⟩
theorem bareW_le (n : Nat) : (bareW n).size ≤ 9 := by
  by_cases h : n < 11
  · have : ∀ m : Fin 11, (bareW m.1).size ≤ 9 := by decide +kernel
    exact this ⟨n, h⟩
  · have : bares.getD n [] = [] := by
      rw [List.getD_eq_getElem?_getD, List.getElem?_eq_none (by simp [bares]; omega)]; rfl
    unfold bareW; rw [this]; exact Nat.zero_le _
theorem ten_wd (n : Nat) : WdOk (tenL n) := fun k hk => by
  simp only [tenL, List.mem_map] at hk
  obtain ⟨i, _, rfl⟩ := hk
  have := bareW_le (i + 1)
  simp only [bareKt]
  omega
theorem fa_below {M lo : Nat} {mo : Option Nat} {A B : World} (h : Fa M mo lo A B) (hl : lo ≤ A.heap.size) : Below lo A B := ⟨h.os, h.tape, h.output, h.size, fun k hk => h.low k (by omega) hk⟩
/-- The next of the ten is laid. -/
theorem laid_ten (n : Nat) (hn : n < 10) (h : AAt Tryz.prog lo M mo dv (tenL n) W) : Calls Tryz.prog 17 #[.pointer (some ⟨M, 0, none⟩), .agg #[.int .i64 ((n + 1 : Nat) : Int), .int .i64 0, .string ⟨#[]⟩, .slice none 0 0, .slice none 0 0, .slice none 0 0]] W (LaidQ lo M mo dv (tenL (n + 1)) (n : Int) W) := by
  have hwd : WdIs M (.agg (tyV ((n + 1 : Nat) : Int) 0 ⟨#[]⟩ (.slice none ([] : List Int).length 0) (.slice none ([] : List ByteArray).length 0) (.slice none ([] : List Bool).length 0))) W (bareW (n + 1)) := fun w' _ => worded_bare (n + 1) (by omega) (by omega) w' _ _ _ _ _ _ _ _ _
  have hle : (bareW (n + 1)).size ≤ maxLen := Nat.le_trans (bareW_le _) (by decide)
  cases mo with
  | none =>
    have hL : tenL n = [] := h.num
    have hn0 : n = 0 := by have := tenL_len n; rw [hL] at this; simpa using this.symm
    subst hn0
    refine (laid_first (k := ((0 + 1 : Nat) : Int)) (n := 0) (s := ⟨#[]⟩) (wd := bareW (0 + 1)) (pa := none) (na := none) (ma := none) (pc := 0) (nc := 0) (mc := 0) (ps := []) (ns := []) (ms := []) h (RowR.nil _ _) (RowR.nil _ _) (RowR.nil _ _) (fun p hp => by cases hp) (by simp) (by simp) (by simp) (Nat.zero_le _) (fun x hx => by cases hx) (by simp [sizeP]) hwd hle).mono fun e w' hq => ?_
    exact hq
  | some b =>
    have hlen := tenL_len n
    refine (laid_new b (k := ((n + 1 : Nat) : Int)) (n := 0) (s := ⟨#[]⟩) (wd := bareW (n + 1)) (pa := none) (na := none) (ma := none) (pc := 0) (nc := 0) (mc := 0) (ps := []) (ns := []) (ms := []) h (ten_sz n) (RowR.nil _ _) (RowR.nil _ _) (RowR.nil _ _) (fun p hp => by cases hp) (by simp) (by simp) (by simp) (Nat.zero_le _) (fun x hx => by cases hx) (by simp [sizeP]) hwd hle (ten_new n hn) (by omega)).mono fun e w' hq => ?_
    rw [hlen] at hq
    rw [tenL_succ]
    exact hq
def NewQ (W : World) (e : Ending) (w' : World) : Prop := ∃ b, e = .returned (.pointer (some ⟨W.heap.size, 0, none⟩)) ∧ AAt Tryz.prog W.heap.size W.heap.size (some b) (.map none) (tenL 10) w' ∧ Below W.heap.size W w'
theorem new_any (W : World) : Calls Tryz.prog 6 #[] W (NewQ W) := by
  have hb1 := (Below.refl _ W).alloc (Nat.le_refl _) (.cells #[.slice none 0 0, .map none, .map none] 62)
  obtain ⟨W1, hW1⟩ : ∃ W1, W.alloc (.cells #[.slice none 0 0, .map none, .map none] 62) = W1 := ⟨_, rfl⟩
  have hA : AAt Tryz.prog W.heap.size W.heap.size none (.map none) (tenL 0) W1 := by
    refine ⟨⟨.slice none 0 0, by rw [← hW1]; exact al_at W _, [], rfl, World.ownsRow_nil _ _ _ _, fun j k v h => by simp [tenL] at h⟩, rfl, Nat.le_refl _, by simp [tenL]⟩
  rw [hW1] at hb1
  have HA := hide hA
  have HB := hide hb1
  clear hA hb1
  go_enter Tryz.func6, Tryz.ntmps6
  go_wp2
  clear hW1
  go_loopw [2] (fun u wr => ∃ (n : Nat) (mo : Option Nat), n ≤ 10 ∧ u = .int .i64 ((n + 1 : Nat) : Int) ∧ AAt Tryz.prog W.heap.size W.heap.size mo (.map none) (tenL n) wr ∧ Below W.heap.size W wr) (fun u _ => 11 - (intOf u).toNat)
  case atStart => exact ⟨0, none, by omega, rfl, unhide HA, unhide HB⟩
  case round =>
    obtain ⟨n, mo, hn, rfl, hA, hB⟩ := hrel
    have HA := hide hA
    have HB := hide hB
    clear hA hB
    by_cases hn9 : n < 10
    · have hle : ((n + 1 : Nat) : Int) ≤ 10 := by omega
      go_wp2_with (first
        | (go_at_call 17
           refine (laid_ten n hn9 (unhide HA)).mono ?_
           rintro e w2 ⟨rfl, mo2, hA2, hf2, -⟩
           have HA2 := hide hA2
           have HB2 := hide ((unhide HB).trans (fa_below hf2 (unhide HB).size))
           clear hA2 hf2))
      go_roundw
      case rel => exact ⟨n + 1, mo2, by omega, by go_num, unhide HA2, unhide HB2⟩
      case measure => simp [intOf]; omega
    · have hn10 : n = 10 := by omega
      subst hn10
      go_wp2
      go_ret
      have hA := unhide HA
      cases mo with
      | none => have := hA.num; have h10 := tenL_len 10; rw [this] at h10; simp at h10
      | some b => exact ⟨b, rfl, hA, unhide HB⟩
end Go.Proofs.YticdaphajanbbaaGreatDoor

/- strings.Clone, lex.Split and the reference's Split, in whatever memory. -/
import Derived.Shelf.Pu.Clone
import Derived.StillTailTactics
import Derived.Test.YtponficlejjafabDoorXF
namespace Go.Proofs
open Go.Shelf
def Tryd.clone_ren : Go.Shelf.Ren := ⟨fun | 25 => 49 | n => n, fun | 37 => 22 | 47 => 83 | n => n, fun | n => n⟩
theorem Tryd.clone_lays : Go.Proofs.LaysPu.n25 Tryd.prog Tryd.clone_ren := {
  mixed := by kernel_rfl
  f25 := Tryd.func49.trans (congrArg some (by kernel_rfl))
  t0 := Tryd.underlying0
  a0 := Tryd.isAgg0
  z0 := Tryd.sizeOf0
  v0 := Tryd.zeroValue0
  i0 := by kernel_rfl
  t3 := Tryd.underlying3
  a3 := Tryd.isAgg3
  z3 := Tryd.sizeOf3
  v3 := Tryd.zeroValue3
  i3 := by kernel_rfl
  t4 := Tryd.underlying4
  a4 := Tryd.isAgg4
  z4 := Tryd.sizeOf4
  v4 := Tryd.zeroValue4
  i4 := by kernel_rfl
  t5 := Tryd.underlying5
  a5 := Tryd.isAgg5
  z5 := Tryd.sizeOf5
  v5 := Tryd.zeroValue5
  i5 := by kernel_rfl
  t9 := Tryd.underlying9
  a9 := Tryd.isAgg9
  z9 := Tryd.sizeOf9
  v9 := Tryd.zeroValue9
  i9 := by kernel_rfl
  t37 := Tryd.underlying22
  a37 := Tryd.isAgg22
  z37 := Tryd.sizeOf22
  v37 := Tryd.zeroValue22
  i37 := by kernel_rfl
  t47 := Tryd.underlying83
  a47 := Tryd.isAgg83
  z47 := Tryd.sizeOf83
  v47 := Tryd.zeroValue83
  i47 := by kernel_rfl }
end Go.Proofs
namespace Go.Proofs.YtponficlejjafabDoor
set_option linter.unusedSimpArgs false
set_option linter.unusedVariables false
open Go.RowKit Go.Shelf

theorem clone49 (s : ByteArray) (w : World) (h : s.size ≤ 281474976710656) : Calls Tryd.prog 49 #[.string s] w fun e w' => e = .returned (.string s) ∧ Below w.heap.size w w' :=
  AnyPu.stringslite_Clone Tryd.clone_lays s w h

set_option maxRecDepth 100000 in
set_option maxHeartbeats 1000000 in
theorem clone36 (s : ByteArray) (w : World) (h : s.size ≤ 281474976710656) : Calls Tryd.prog 36 #[.string s] w fun e w' => e = .returned (.string s) ∧ Below w.heap.size w w' := by
  have hh := hide h
  clear h
  go_enter Tryd.func36, Tryd.ntmps36
  go_wp2_with (go_at_call 49; refine (clone49 s _ (unhide hh)).mono ?_; rintro e w1 ⟨rfl, hb⟩)
  go_ret
  exact ⟨rfl, hb⟩

attribute [local go_sem] tokV
/-- A token that Split takes apart. -/
def Good (k : Int) (s : ByteArray) : Prop := k = 9 ∧ ∃ h : 2 ≤ s.size, (s[0]'(by omega)).toNat = 62


set_option maxRecDepth 100000 in
set_option maxHeartbeats 1000000 in
theorem split22_good (k a b : Int) (s : ByteArray) (w : World) (hk : k = 9) (h2 : 2 ≤ s.size) (h3 : (s[0]'(by omega)).toNat = 62) : Calls Tryd.prog 22 #[.agg #[.int .i64 k, .string s, .int .i64 a, .int .i64 b]] w fun e w' => e = .returned (.tuple #[.agg #[.int .i64 9, .string (s.extract 1 s.size), .int .i64 (wrap64 (a + 1)), .int .i64 b], .bool true]) ∧ Below w.heap.size w w' := by
  subst hk
  obtain ⟨W1, hW1⟩ : ∃ W1, (w.alloc (.cells #[.int .i64 9, .string s, .int .i64 a, .int .i64 b] 37)).alloc (.cells #[.int .i64 0, .string ⟨#[]⟩, .int .i64 0, .int .i64 0] 37) = W1 := ⟨_, rfl⟩
  have hB1 : Below w.heap.size w W1 := by rw [← hW1]; exact ((Below.refl _ w).alloc (Nat.le_refl _) _).alloc (by simp) _
  have hz1 : W1.heap.size = w.heap.size + 1 + 1 := by rw [← hW1]; simp
  have hr0 : W1.heap[w.heap.size]? = some (.cells #[.int .i64 9, .string s, .int .i64 a, .int .i64 b] 37) := by rw [← hW1, heap_alloc_old _ _ (by simp)]; exact World.alloc_heap_new w _
  have hr1 : W1.heap[w.heap.size + 1]? = some (.cells #[.int .i64 0, .string ⟨#[]⟩, .int .i64 0, .int .i64 0] 37) := by rw [← hW1]; simpa using World.alloc_heap_new (w.alloc (.cells #[.int .i64 9, .string s, .int .i64 a, .int .i64 b] 37)) (.cells #[.int .i64 0, .string ⟨#[]⟩, .int .i64 0, .int .i64 0] 37)
  obtain ⟨c0, c1, c2, c3⟩ := tok_cells hr0
  obtain ⟨d0, d1, d2, d3⟩ := tok_cells hr1
  have d4 := Lib.frozen_of_heap hr1
  have d5 : W1.shape? (w.heap.size + 1) = some (37, 4) := by simp [World.shape?, hr1]
  have i0 : 0 < s.size := by omega
  have i1 : (2 : Int) ≤ s.size := by omega
  have i2 : (((s[0]'i0).toNat : Int) != 62) = false := by simp [h3]
  have i3 : 1 ≤ s.size := by omega
  have i4 : (1 : Int) ≤ s.size := by omega
  clear h3 h2
  go_enter Tryd.func22, Tryd.ntmps22
  go_wp2
  go_still_tail 9, (by kernel_rfl)
  change wpList _ _ _ _ _ (World.drew W1)
  go_wp2
  have hR := hr1
  have hB4 := put4_below (W := W1) (R := w.heap.size + 1) (n := w.heap.size) (by omega) (.int .i64 9) (.string (s.extract 1 s.size)) (.int .i64 (wrap64 (a + 1))) (.int .i64 b)
  have hr4 := put4_heap (hR) (.int .i64 9) (.string (s.extract 1 s.size)) (.int .i64 (wrap64 (a + 1))) (.int .i64 b)
  obtain ⟨W4, hW4⟩ : ∃ W4, ((((W1.setCell ⟨w.heap.size + 1, 0, none⟩ (.int .i64 9)).setCell ⟨w.heap.size + 1, 1, none⟩ (.string (s.extract 1 s.size))).setCell ⟨w.heap.size + 1, 2, none⟩ (.int .i64 (wrap64 (a + 1)))).setCell ⟨w.heap.size + 1, 3, none⟩ (.int .i64 b)) = W4 := ⟨_, rfl⟩
  rw [hW4] at hB4 hr4 ⊢
  clear hW4
  obtain ⟨e0, e1, e2, e3⟩ := tok_cells hr4
  refine bodyPost_ret (v := .tuple #[.agg #[.int .i64 9, .string (s.extract 1 s.size), .int .i64 (wrap64 (a + 1)), .int .i64 b], .bool true]) ?_ rfl ⟨rfl, (hB1.trans hB4).drew⟩
  clear d0 d1 d2 d3 d4 d5
  simp [results, Tryd.results22, go_sem, e0, e1, e2, e3]

set_option maxRecDepth 100000 in
set_option maxHeartbeats 1000000 in
theorem split22_bad (k a b : Int) (s : ByteArray) (w : World) (hb : ¬ Good k s) : Calls Tryd.prog 22 #[.agg #[.int .i64 k, .string s, .int .i64 a, .int .i64 b]] w fun e w' => e = .returned (.tuple #[.agg #[.int .i64 0, .string ⟨#[]⟩, .int .i64 0, .int .i64 0], .bool false]) ∧ Below w.heap.size w w' := by
  have hB : ∀ k' : Int, Below w.heap.size w ((w.alloc (.cells #[.int .i64 k', .string s, .int .i64 a, .int .i64 b] 37)).alloc (.cells #[.int .i64 0, .string ⟨#[]⟩, .int .i64 0, .int .i64 0] 37)) := fun k' => ((Below.refl _ w).alloc (Nat.le_refl _) _).alloc (by simp) _
  have hbh := hide hb
  clear hb
  go_enter Tryd.func22, Tryd.ntmps22
  go_wp2
  · refine bodyPost_ret (v := .tuple #[.agg #[.int .i64 0, .string ⟨#[]⟩, .int .i64 0, .int .i64 0], .bool false]) ?_ rfl ⟨rfl, hB _⟩
    simp [results, Tryd.results22, go_sem]
  · exfalso
    rename_i h4 h3 h2 h1 _ _
    exact unhide hbh ⟨by assumption, by omega, by have := h1.2; simp at this; omega⟩
  · refine bodyPost_ret (v := .tuple #[.agg #[.int .i64 0, .string ⟨#[]⟩, .int .i64 0, .int .i64 0], .bool false]) ?_ rfl ⟨rfl, hB _⟩
    simp [results, Tryd.results22, go_sem]
  · refine bodyPost_ret (v := .tuple #[.agg #[.int .i64 0, .string ⟨#[]⟩, .int .i64 0, .int .i64 0], .bool false]) ?_ rfl ⟨rfl, hB _⟩
    simp [results, Tryd.results22, go_sem]
set_option maxRecDepth 100000 in
set_option maxHeartbeats 1000000 in
theorem split21_bad (k a b : Int) (s : ByteArray) (w : World) (hb : ¬ Good k s) : Calls Tryd.prog 21 #[.agg #[.int .i64 k, .string s, .int .i64 a, .int .i64 b]] w fun e w' => e = .returned (.tuple #[.agg #[.int .i64 0, .string ⟨#[]⟩, .int .i64 0, .int .i64 0], .bool false]) ∧ Below w.heap.size w w' := by
  have hB : ∀ k' : Int, Below w.heap.size w ((w.alloc (.cells #[.int .i64 k', .string s, .int .i64 a, .int .i64 b] 37)).alloc (.cells #[.int .i64 0, .string ⟨#[]⟩, .int .i64 0, .int .i64 0] 37)) := fun k' => ((Below.refl _ w).alloc (Nat.le_refl _) _).alloc (by simp) _
  have hbh := hide hb
  clear hb
  go_enter Tryd.func21, Tryd.ntmps21
  go_wp2
  · refine bodyPost_ret (v := .tuple #[.agg #[.int .i64 0, .string ⟨#[]⟩, .int .i64 0, .int .i64 0], .bool false]) ?_ rfl ⟨rfl, hB _⟩
    simp [results, Tryd.results21, go_sem]
  · exfalso
    rename_i h4 h3 h2 h1 _ _
    exact unhide hbh ⟨by assumption, by omega, by have := h1.2; simp at this; omega⟩
  · refine bodyPost_ret (v := .tuple #[.agg #[.int .i64 0, .string ⟨#[]⟩, .int .i64 0, .int .i64 0], .bool false]) ?_ rfl ⟨rfl, hB _⟩
    simp [results, Tryd.results21, go_sem]
  · refine bodyPost_ret (v := .tuple #[.agg #[.int .i64 0, .string ⟨#[]⟩, .int .i64 0, .int .i64 0], .bool false]) ?_ rfl ⟨rfl, hB _⟩
    simp [results, Tryd.results21, go_sem]
end Go.Proofs.YtponficlejjafabDoor

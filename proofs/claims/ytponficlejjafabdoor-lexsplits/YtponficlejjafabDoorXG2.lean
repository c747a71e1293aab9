/- lex.Split of a sign that it takes apart, in whatever memory. -/
import Derived.Test.YtponficlejjafabDoorXG
namespace Go.Proofs.YtponficlejjafabDoor
set_option linter.unusedSimpArgs false
set_option linter.unusedVariables false
open Go.RowKit Go.Shelf
theorem wrapE (n : Int) : IntKind.i64.wrap n = wrap64 n := IntWalk.i64_left n
attribute [local go_sem] tokV
set_option maxRecDepth 100000 in
set_option maxHeartbeats 1000000 in
theorem split21_good (k a b : Int) (s : ByteArray) (w : World) (hk : k = 9) (hlim : s.size ≤ 281474976710656) (h2 : 2 ≤ s.size) (h3 : (s[0]'(by omega)).toNat = 62) : Calls Tryd.prog 21 #[.agg #[.int .i64 k, .string s, .int .i64 a, .int .i64 b]] w fun e w' => e = .returned (.tuple #[.agg #[.int .i64 9, .string (s.extract 1 s.size), .int .i64 (wrap64 (a + 1)), .int .i64 b], .bool true]) ∧ Below w.heap.size w w' := by
  subst hk
  obtain ⟨W1, hW1⟩ : ∃ W1, (w.alloc (.cells #[.int .i64 9, .string s, .int .i64 a, .int .i64 b] 37)).alloc (.cells #[.int .i64 0, .string ⟨#[]⟩, .int .i64 0, .int .i64 0] 37) = W1 := ⟨_, rfl⟩
  have hB1 : Below w.heap.size w W1 := by rw [← hW1]; exact ((Below.refl _ w).alloc (Nat.le_refl _) _).alloc (by simp) _
  have hz1 : W1.heap.size = w.heap.size + 1 + 1 := by rw [← hW1]; simp
  have hr0 : W1.heap[w.heap.size]? = some (.cells #[.int .i64 9, .string s, .int .i64 a, .int .i64 b] 37) := by rw [← hW1, heap_alloc_old _ _ (by simp)]; exact World.alloc_heap_new w _
  have hr1 : W1.heap[w.heap.size + 1]? = some (.cells #[.int .i64 0, .string ⟨#[]⟩, .int .i64 0, .int .i64 0] 37) := by rw [← hW1]; simpa using World.alloc_heap_new (w.alloc (.cells #[.int .i64 9, .string s, .int .i64 a, .int .i64 b] 37)) (.cells #[.int .i64 0, .string ⟨#[]⟩, .int .i64 0, .int .i64 0] 37)
  obtain ⟨c0, c1, c2, c3⟩ := tok_cells hr0
  obtain ⟨d0, d1, d2, d3⟩ := tok_cells hr1
  have d4 := Lib.frozen_of_heap hr1
  have d5 : W1.shape? (w.heap.size + 1) = some (37, 4) := by simp [World.shape?, hr1]
  have i0 : 0 < s.size := by omega
  have i1 : (2 : Int) ≤ s.size := by omega
  have i2 : (((s[0]'i0).toNat : Int) != 62) = false := by simp [h3]
  have i3 : 1 ≤ s.size := by omega
  have i4 : (1 : Int) ≤ s.size := by omega
  clear h3 h2
  have hex : (s.extract 1 s.size).size ≤ 281474976710656 := by simp; omega
  have HC := hide fun W => clone36 (s.extract 1 s.size) W hex
  clear hex hlim
  go_enter Tryd.func21, Tryd.ntmps21
  go_wp2
  go_region_with (go_at_call 36; refine (unhide HC _).mono ?_; rintro e W2 ⟨rfl, hB2⟩; have hr0' := (hB2.block w.heap.size (by show w.heap.size < W1.heap.size; omega)).trans hr0; have hr1' := (hB2.block (w.heap.size + 1) (by show w.heap.size + 1 < W1.heap.size; omega)).trans hr1; obtain ⟨c0', c1', c2', c3'⟩ := tok_cells hr0'; obtain ⟨d0', d1', d2', d3'⟩ := tok_cells hr1'; have d4' := Lib.frozen_of_heap hr1'; have d5' : W2.shape? (w.heap.size + 1) = some (37, 4) := (by simp [World.shape?, hr1']))
  all_goals (
    clear c0 c1 c2 c3 c0' c1' c2' c3' HC
    go_wp2
    have hB2' : Below W1.heap.size W1 W2 := (⟨rfl, rfl, rfl, Nat.le_refl _, fun _ _ => rfl⟩ : Below W1.heap.size W1 W1.drew).trans hB2
    have hwr := wrapE (a + 1)
    have hB4 := put4_below (W := W2) (R := w.heap.size + 1) (n := w.heap.size) (by omega) (.int .i64 9) (.string (s.extract 1 s.size)) (.int .i64 (IntKind.i64.wrap (a + 1))) (.int .i64 b)
    have hr4 := put4_heap hr1' (.int .i64 9) (.string (s.extract 1 s.size)) (.int .i64 (IntKind.i64.wrap (a + 1))) (.int .i64 b)
    obtain ⟨W4, hW4⟩ : ∃ W4, ((((W2.setCell ⟨w.heap.size + 1, 0, none⟩ (.int .i64 9)).setCell ⟨w.heap.size + 1, 1, none⟩ (.string (s.extract 1 s.size))).setCell ⟨w.heap.size + 1, 2, none⟩ (.int .i64 (IntKind.i64.wrap (a + 1)))).setCell ⟨w.heap.size + 1, 3, none⟩ (.int .i64 b)) = W4 := ⟨_, rfl⟩
    rw [hW4] at hB4 hr4 ⊢
    clear hW4
    obtain ⟨e0, e1, e2, e3⟩ := tok_cells hr4
    rw [hwr] at e2
    refine bodyPost_ret (v := .tuple #[.agg #[.int .i64 9, .string (s.extract 1 s.size), .int .i64 (wrap64 (a + 1)), .int .i64 b], .bool true]) ?_ rfl ⟨rfl, (hB1.trans (hB2'.mono hB1.size)).trans hB4⟩
    clear d0 d1 d2 d3 d4 d5 d0' d1' d2' d3' d4' d5'
    simp [results, Tryd.results21, go_sem, e0, e1, e2, e3])
end Go.Proofs.YtponficlejjafabDoor

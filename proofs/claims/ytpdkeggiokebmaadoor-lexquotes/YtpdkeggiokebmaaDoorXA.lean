/- lex's machine: the token that begins at its place. -/
import Derived.Deep.QuietTactic
import Derived.BigQuiet
import Derived.Test.YtpdkeggiokebmaaDoorX7
import Derived.Test.YtpdkeggiokebmaaDoorX9
namespace Go.Proofs.YtpdkeggiokebmaaDoor
set_option linter.unusedSimpArgs false
set_option linter.unusedVariables false
open Go.RowKit Go.Shelf

attribute [local go_sem] tokV
set_option maxRecDepth 100000 in
set_option maxHeartbeats 1000000 in
theorem tok_word (M c : Nat) (a : Option Addr) (len cap : Nat) (g : Nat → Int) (at' : Nat) (ov : Value) (kd e' : Int) (S : ByteArray) (W : World) (h : MAt W M (.slice a len cap) at' ov) (hS : Sl W c (.slice a len cap) len g) (hc : c < W.heap.size) (hat : at' < len) (hlen : len ≤ 1099511627776) (hL : isL (g at') = true)
    (hw : ∀ W, MAt W M (.slice a len cap) at' ov → Sl W c (.slice a len cap) len g → c < W.heap.size → Calls Tryd.prog 49 #[.pointer (some ⟨M, 0, none⟩)] W fun x W' => x = .returned (tokV kd S at' e') ∧ MAt W' M (.slice a len cap) e' ov ∧ Fr (fun k => k = M) W W') :
    Calls Tryd.prog 35 #[.pointer (some ⟨M, 0, none⟩)] W fun x W' => x = .returned (.tuple #[tokV kd S at' e', .bool true]) ∧ MAt W' M (.slice a len cap) e' ov ∧ Fr (fun k => k = M) W W' := by
  have HW : Hid (∀ W', Below W.heap.size W W' → Calls Tryd.prog 49 #[.pointer (some ⟨M, 0, none⟩)] W' fun x W'' => x = .returned (tokV kd S at' e') ∧ MAt W'' M (.slice a len cap) e' ov ∧ Fr (fun k => k = M) W' W'') := fun W' hb => hw W' (h.below hb h.lt) (hS.keep (fun k e => by subst e; exact hb.block k hc)) (Nat.lt_of_lt_of_le hc hb.size)
  clear hw
  obtain ⟨W1, hW1⟩ : ∃ W1, W.alloc (.cells #[.int .i64 0, .string ⟨#[]⟩, .int .i64 0, .int .i64 0] 33) = W1 := ⟨_, rfl⟩
  have hB1 : Below W.heap.size W W1 := by rw [← hW1]; exact (Below.refl _ W).alloc (Nat.le_refl _) _
  have hz1 : W1.heap.size = W.heap.size + 1 := by rw [← hW1]; simp
  have hr1 : W1.heap[W.heap.size]? = some (.cells #[.int .i64 0, .string ⟨#[]⟩, .int .i64 0, .int .i64 0] 33) := by rw [← hW1]; exact World.alloc_heap_new W _
  have hM1 := h.below hB1 h.lt
  have hml := h.lt
  have c0 := hM1.c0
  have c1 := hM1.c1
  obtain ⟨off, cap', hv, h0, h1, h2, hcs⟩ : ∃ off cap', Value.slice a len cap = .slice (some ⟨c, off, none⟩) len cap' ∧ 0 < len ∧ len ≤ cap' ∧ cap' ≤ maxLen ∧ ∀ j, j < len → W1.cell? ⟨c, off + j, none⟩ = some (.int .u8 (g j)) := by
    rcases hS.keep (B := W1) (fun k e => by subst e; exact hB1.block k hc) with ⟨_, _, h, h0⟩ | h
    · omega
    · exact h
  cases hv
  unfold maxLen at h2
  have hck := hcs at' hat
  have n1 : (at' : Int) < len := by omega
  clear hcs hS
  go_enter Tryd.func35, Tryd.ntmps35
  go_wp2
  clear hW1
  go_quiet (fail)
  go_wp2_with (first | (go_at_call 48; refine (isLetter_any _ _).mono ?_; rintro x w' ⟨rfl, hw⟩; subst w') | (go_at_call 49; refine (unhide HW (W1.drewN nq) (hB1.trans ⟨rfl, rfl, rfl, Nat.le_refl _, fun _ _ => rfl⟩)).mono ?_; rintro x W3 ⟨rfl, hM3, hF3⟩; have hr3 : W3.heap[W.heap.size]? = some (.cells #[.int .i64 0, .string ⟨#[]⟩, .int .i64 0, .int .i64 0] 33) := (hF3.block W.heap.size (by show W.heap.size < W1.heap.size; omega) (by omega)).trans hr1; obtain ⟨d0, d1, d2, d3⟩ := tok_cells hr3; have d4 := Lib.frozen_of_heap hr3; have d5 : W3.shape? W.heap.size = some (33, 4) := (by simp [World.shape?, hr3])))
  have hB4 := put4_below (W := W3) (Nat.le_refl W.heap.size) (.int .i64 kd) (.string S) (.int .i64 (at' : Int)) (.int .i64 e')
  have hr4 := put4_heap hr3 (.int .i64 kd) (.string S) (.int .i64 (at' : Int)) (.int .i64 e')
  obtain ⟨W4, hW4⟩ : ∃ W4, ((((W3.setCell ⟨W.heap.size, 0, none⟩ (.int .i64 kd)).setCell ⟨W.heap.size, 1, none⟩ (.string S)).setCell ⟨W.heap.size, 2, none⟩ (.int .i64 (at' : Int))).setCell ⟨W.heap.size, 3, none⟩ (.int .i64 e')) = W4 := ⟨_, rfl⟩
  rw [hW4] at hB4 hr4 ⊢
  clear hW4
  obtain ⟨e0, e1, e2, e3⟩ := tok_cells hr4
  have hF1 : Fr (fun k => k = M) W (W1.drewN nq) := (Fr.refl _ W).below (hB1.trans ⟨rfl, rfl, rfl, Nat.le_refl _, fun _ _ => rfl⟩)
  refine bodyPost_ret (v := .tuple #[.agg #[.int .i64 kd, .string S, .int .i64 (at' : Int), .int .i64 e'], .bool true]) ?_ rfl ⟨rfl, hM3.below hB4 hml, (hF1.trans hF3).below hB4⟩
  clear d0 d1 d2 d3 d4 d5
  simp [results, Tryd.results35, go_sem, e0, e1, e2, e3]


set_option maxRecDepth 100000 in
set_option maxHeartbeats 1000000 in
theorem tok_sign (M c : Nat) (a : Option Addr) (len cap : Nat) (g : Nat → Int) (at' : Nat) (ov : Value) (kd e' : Int) (S : ByteArray) (W : World) (h : MAt W M (.slice a len cap) at' ov) (hS : Sl W c (.slice a len cap) len g) (hc : c < W.heap.size) (hat : at' < len) (hlen : len ≤ 1099511627776) (hL : isL (g at') = false) (hD : isD (g at') = false) (q1 : g at' ≠ 34) (q2 : g at' ≠ 39) (q3 : g at' ≠ 96) (q4 : g at' ≠ 125)
    (hw : ∀ W, MAt W M (.slice a len cap) at' ov → Sl W c (.slice a len cap) len g → c < W.heap.size → Calls Tryd.prog 56 #[.pointer (some ⟨M, 0, none⟩)] W fun x W' => x = .returned (.tuple #[tokV kd S at' e', .bool true]) ∧ MAt W' M (.slice a len cap) e' ov ∧ Fr (fun k => k = M) W W') :
    Calls Tryd.prog 35 #[.pointer (some ⟨M, 0, none⟩)] W fun x W' => x = .returned (.tuple #[tokV kd S at' e', .bool true]) ∧ MAt W' M (.slice a len cap) e' ov ∧ Fr (fun k => k = M) W W' := by
  have HW : Hid (∀ W', Below W.heap.size W W' → Calls Tryd.prog 56 #[.pointer (some ⟨M, 0, none⟩)] W' fun x W'' => x = .returned (.tuple #[tokV kd S at' e', .bool true]) ∧ MAt W'' M (.slice a len cap) e' ov ∧ Fr (fun k => k = M) W' W'') := fun W' hb => hw W' (h.below hb h.lt) (hS.keep (fun k e => by subst e; exact hb.block k hc)) (Nat.lt_of_lt_of_le hc hb.size)
  clear hw
  obtain ⟨W1, hW1⟩ : ∃ W1, W.alloc (.cells #[.int .i64 0, .string ⟨#[]⟩, .int .i64 0, .int .i64 0] 33) = W1 := ⟨_, rfl⟩
  have hB1 : Below W.heap.size W W1 := by rw [← hW1]; exact (Below.refl _ W).alloc (Nat.le_refl _) _
  have hz1 : W1.heap.size = W.heap.size + 1 := by rw [← hW1]; simp
  have hr1 : W1.heap[W.heap.size]? = some (.cells #[.int .i64 0, .string ⟨#[]⟩, .int .i64 0, .int .i64 0] 33) := by rw [← hW1]; exact World.alloc_heap_new W _
  have hM1 := h.below hB1 h.lt
  have hml := h.lt
  have c0 := hM1.c0
  have c1 := hM1.c1
  obtain ⟨off, cap', hv, h0, h1, h2, hcs⟩ : ∃ off cap', Value.slice a len cap = .slice (some ⟨c, off, none⟩) len cap' ∧ 0 < len ∧ len ≤ cap' ∧ cap' ≤ maxLen ∧ ∀ j, j < len → W1.cell? ⟨c, off + j, none⟩ = some (.int .u8 (g j)) := by
    rcases hS.keep (B := W1) (fun k e => by subst e; exact hB1.block k hc) with ⟨_, _, h, h0⟩ | h
    · omega
    · exact h
  cases hv
  unfold maxLen at h2
  have hck := hcs at' hat
  have n1 : (at' : Int) < len := by omega
  clear hcs hS
  have b1 : (g at' == 34) = false := by simpa using q1
  have b2 : (g at' == 39) = false := by simpa using q2
  have b3 : (g at' == 96) = false := by simpa using q3
  have b4 : (g at' == 125) = false := by simpa using q4
  go_enter Tryd.func35, Tryd.ntmps35
  go_wp2
  clear hW1
  go_quiet (fail)
  go_wp2_with (first | (go_at_call 48; refine (isLetter_any _ _).mono ?_; rintro x w' ⟨rfl, hw⟩; subst w') | (go_at_call 50; refine (isDigit_any _ _).mono ?_; rintro x w' ⟨rfl, hw⟩; subst w') | (go_at_call 56; refine (unhide HW (W1.drewN nq) (hB1.trans ⟨rfl, rfl, rfl, Nat.le_refl _, fun _ _ => rfl⟩)).mono ?_; rintro x W3 ⟨rfl, hM3, hF3⟩; have hr3 : W3.heap[W.heap.size]? = some (.cells #[.int .i64 0, .string ⟨#[]⟩, .int .i64 0, .int .i64 0] 33) := (hF3.block W.heap.size (by show W.heap.size < W1.heap.size; omega) (by omega)).trans hr1; obtain ⟨d0, d1, d2, d3⟩ := tok_cells hr3; have d4 := Lib.frozen_of_heap hr3; have d5 : W3.shape? W.heap.size = some (33, 4) := (by simp [World.shape?, hr3])))
  have hB4 := put4_below (W := W3) (Nat.le_refl W.heap.size) (.int .i64 kd) (.string S) (.int .i64 (at' : Int)) (.int .i64 e')
  have hr4 := put4_heap hr3 (.int .i64 kd) (.string S) (.int .i64 (at' : Int)) (.int .i64 e')
  obtain ⟨W4, hW4⟩ : ∃ W4, ((((W3.setCell ⟨W.heap.size, 0, none⟩ (.int .i64 kd)).setCell ⟨W.heap.size, 1, none⟩ (.string S)).setCell ⟨W.heap.size, 2, none⟩ (.int .i64 (at' : Int))).setCell ⟨W.heap.size, 3, none⟩ (.int .i64 e')) = W4 := ⟨_, rfl⟩
  rw [hW4] at hB4 hr4 ⊢
  clear hW4
  obtain ⟨e0, e1, e2, e3⟩ := tok_cells hr4
  have hF1 : Fr (fun k => k = M) W (W1.drewN nq) := (Fr.refl _ W).below (hB1.trans ⟨rfl, rfl, rfl, Nat.le_refl _, fun _ _ => rfl⟩)
  refine bodyPost_ret (v := .tuple #[.agg #[.int .i64 kd, .string S, .int .i64 (at' : Int), .int .i64 e'], .bool true]) ?_ rfl ⟨rfl, hM3.below hB4 hml, (hF1.trans hF3).below hB4⟩
  clear d0 d1 d2 d3 d4 d5
  simp [results, Tryd.results35, go_sem, e0, e1, e2, e3]

set_option maxRecDepth 100000 in
set_option maxHeartbeats 1000000 in
theorem tok_quote (M c : Nat) (a : Option Addr) (len cap : Nat) (g : Nat → Int) (at' : Nat) (ov : Value) (kd e' : Int) (S : ByteArray) (W : World) (h : MAt W M (.slice a len cap) at' ov) (hS : Sl W c (.slice a len cap) len g) (hc : c < W.heap.size) (hat : at' < len) (hlen : len ≤ 1099511627776) (q1 : g at' = 34)
    (hw : ∀ W, MAt W M (.slice a len cap) at' ov → Sl W c (.slice a len cap) len g → c < W.heap.size → Calls Tryd.prog 52 #[.pointer (some ⟨M, 0, none⟩), .int .i32 34] W fun x W' => x = .returned (.tuple #[tokV kd S at' e', .bool true]) ∧ MAt W' M (.slice a len cap) e' ov ∧ Fr (fun k => k = M) W W') :
    Calls Tryd.prog 35 #[.pointer (some ⟨M, 0, none⟩)] W fun x W' => x = .returned (.tuple #[tokV kd S at' e', .bool true]) ∧ MAt W' M (.slice a len cap) e' ov ∧ Fr (fun k => k = M) W W' := by
  have HW : Hid (∀ W', Below W.heap.size W W' → Calls Tryd.prog 52 #[.pointer (some ⟨M, 0, none⟩), .int .i32 34] W' fun x W'' => x = .returned (.tuple #[tokV kd S at' e', .bool true]) ∧ MAt W'' M (.slice a len cap) e' ov ∧ Fr (fun k => k = M) W' W'') := fun W' hb => hw W' (h.below hb h.lt) (hS.keep (fun k e => by subst e; exact hb.block k hc)) (Nat.lt_of_lt_of_le hc hb.size)
  clear hw
  obtain ⟨W1, hW1⟩ : ∃ W1, W.alloc (.cells #[.int .i64 0, .string ⟨#[]⟩, .int .i64 0, .int .i64 0] 33) = W1 := ⟨_, rfl⟩
  have hB1 : Below W.heap.size W W1 := by rw [← hW1]; exact (Below.refl _ W).alloc (Nat.le_refl _) _
  have hz1 : W1.heap.size = W.heap.size + 1 := by rw [← hW1]; simp
  have hr1 : W1.heap[W.heap.size]? = some (.cells #[.int .i64 0, .string ⟨#[]⟩, .int .i64 0, .int .i64 0] 33) := by rw [← hW1]; exact World.alloc_heap_new W _
  have hM1 := h.below hB1 h.lt
  have hml := h.lt
  have c0 := hM1.c0
  have c1 := hM1.c1
  obtain ⟨off, cap', hv, h0, h1, h2, hcs⟩ : ∃ off cap', Value.slice a len cap = .slice (some ⟨c, off, none⟩) len cap' ∧ 0 < len ∧ len ≤ cap' ∧ cap' ≤ maxLen ∧ ∀ j, j < len → W1.cell? ⟨c, off + j, none⟩ = some (.int .u8 (g j)) := by
    rcases hS.keep (B := W1) (fun k e => by subst e; exact hB1.block k hc) with ⟨_, _, h, h0⟩ | h
    · omega
    · exact h
  cases hv
  unfold maxLen at h2
  have hck := hcs at' hat
  have n1 : (at' : Int) < len := by omega
  clear hcs hS
  rw [q1] at hck
  have hL : isL 34 = false := by decide
  have hD : isD 34 = false := by decide
  go_enter Tryd.func35, Tryd.ntmps35
  go_wp2
  clear hW1
  go_quiet (fail)
  go_wp2_with (first | (go_at_call 48; refine (isLetter_any _ _).mono ?_; rintro x w' ⟨rfl, hw⟩; subst w') | (go_at_call 50; refine (isDigit_any _ _).mono ?_; rintro x w' ⟨rfl, hw⟩; subst w') | (go_at_call 52; refine (unhide HW (W1.drewN nq) (hB1.trans ⟨rfl, rfl, rfl, Nat.le_refl _, fun _ _ => rfl⟩)).mono ?_; rintro x W3 ⟨rfl, hM3, hF3⟩; have hr3 : W3.heap[W.heap.size]? = some (.cells #[.int .i64 0, .string ⟨#[]⟩, .int .i64 0, .int .i64 0] 33) := (hF3.block W.heap.size (by show W.heap.size < W1.heap.size; omega) (by omega)).trans hr1; obtain ⟨d0, d1, d2, d3⟩ := tok_cells hr3; have d4 := Lib.frozen_of_heap hr3; have d5 : W3.shape? W.heap.size = some (33, 4) := (by simp [World.shape?, hr3])))
  have hB4 := put4_below (W := W3) (Nat.le_refl W.heap.size) (.int .i64 kd) (.string S) (.int .i64 (at' : Int)) (.int .i64 e')
  have hr4 := put4_heap hr3 (.int .i64 kd) (.string S) (.int .i64 (at' : Int)) (.int .i64 e')
  obtain ⟨W4, hW4⟩ : ∃ W4, ((((W3.setCell ⟨W.heap.size, 0, none⟩ (.int .i64 kd)).setCell ⟨W.heap.size, 1, none⟩ (.string S)).setCell ⟨W.heap.size, 2, none⟩ (.int .i64 (at' : Int))).setCell ⟨W.heap.size, 3, none⟩ (.int .i64 e')) = W4 := ⟨_, rfl⟩
  rw [hW4] at hB4 hr4 ⊢
  clear hW4
  obtain ⟨e0, e1, e2, e3⟩ := tok_cells hr4
  have hF1 : Fr (fun k => k = M) W (W1.drewN nq) := (Fr.refl _ W).below (hB1.trans ⟨rfl, rfl, rfl, Nat.le_refl _, fun _ _ => rfl⟩)
  refine bodyPost_ret (v := .tuple #[.agg #[.int .i64 kd, .string S, .int .i64 (at' : Int), .int .i64 e'], .bool true]) ?_ rfl ⟨rfl, hM3.below hB4 hml, (hF1.trans hF3).below hB4⟩
  clear d0 d1 d2 d3 d4 d5
  simp [results, Tryd.results35, go_sem, e0, e1, e2, e3]

end Go.Proofs.YtpdkeggiokebmaaDoor

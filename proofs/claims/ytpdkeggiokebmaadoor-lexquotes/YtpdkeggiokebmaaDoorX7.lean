/- lex's machine: a sign that is no brace. -/
import Derived.Deep.RegionWith
import Derived.Deep.QuietTactic
import Derived.BigQuiet
import Derived.Test.YtpdkeggiokebmaaDoorX4
import Derived.Test.YtpdkeggiokebmaaDoorX6
namespace Go.Proofs.YtpdkeggiokebmaaDoor
set_option linter.unusedSimpArgs false
set_option linter.unusedVariables false
open Go.RowKit Go.Shelf

attribute [local go_sem] tokV
set_option maxRecDepth 100000 in
set_option maxHeartbeats 1000000 in
theorem sign_plain (M c : Nat) (a : Option Addr) (len cap : Nat) (g : Nat → Int) (at' : Nat) (ov : Value) (S : ByteArray) (W : World) (h : MAt W M (.slice a len cap) at' ov) (hS : Sl W c (.slice a len cap) len g) (hc : c < W.heap.size) (hat : at' < len) (hlen : len ≤ 1099511627776)
    (he : lsg (fun j => g (at' + j)) (min 3 (len - at')) = S) (hs3 : S.size ≤ 3) (hn1 : (S.toList == []) = false) (hn2 : (S.toList == [123]) = false) (hn3 : (S.toList == [125]) = false) :
    Calls Tryd.prog 56 #[.pointer (some ⟨M, 0, none⟩)] W fun x W' => x = .returned (.tuple #[tokV 9 S at' (at' + S.size), .bool true]) ∧ MAt W' M (.slice a len cap) (at' + S.size) ov ∧ Fr (fun k => k = M) W W' := by
  obtain ⟨W1, hW1⟩ : ∃ W1, W.alloc (.cells #[.int .i64 0, .string ⟨#[]⟩, .int .i64 0, .int .i64 0] 33) = W1 := ⟨_, rfl⟩
  have hB1 : Below W.heap.size W W1 := by rw [← hW1]; exact (Below.refl _ W).alloc (Nat.le_refl _) _
  have hz1 : W1.heap.size = W.heap.size + 1 := by rw [← hW1]; simp
  have hr1 : W1.heap[W.heap.size]? = some (.cells #[.int .i64 0, .string ⟨#[]⟩, .int .i64 0, .int .i64 0] 33) := by rw [← hW1]; exact World.alloc_heap_new W _
  have hM1 := h.below hB1 h.lt
  have hS1 := hS.keep (B := W1) (fun k e => by subst e; exact hB1.block k hc)
  have c0 := hM1.c0
  have c1 := hM1.c1
  have hml := h.lt
  obtain ⟨a', c', hsl, hk⟩ := slice_from hS1 (Nat.le_of_lt hat)
  have HLS := hide (lsign_any c a' (len - at') c' _ W1.drew (hk _ (hS1.keep (B := W1.drew) (fun _ _ => rfl))) (by show c < W1.heap.size; omega) (by omega))
  rw [he] at HLS
  clear hS hS1 hk
  go_enter Tryd.func56, Tryd.ntmps56
  go_wp2
  go_region_with (go_at_call 70; refine (unhide HLS).mono ?_; rintro x W2 ⟨rfl, hB2⟩)
  all_goals (
    have hB2' : Below W1.heap.size W1 W2 := (⟨rfl, rfl, rfl, Nat.le_refl _, fun _ _ => rfl⟩ : Below W1.heap.size W1 W1.drew).trans hB2
    have hM2 := hM1.below hB2' hM1.lt
    have hr2 := (hB2'.block W.heap.size (by omega)).trans hr1
    have hz2 := hB2'.size
    have c1 := hM2.c1
    have c0 := hM2.c0
    clear hsl
    go_wp2_with (go_at_call 66; refine (take_any M _ ov at' 9 _ S W2 hM2).mono ?_; rintro x W3 ⟨rfl, hM3, hF3⟩; have hr3 : W3.heap[W.heap.size]? = some (.cells #[.int .i64 0, .string ⟨#[]⟩, .int .i64 0, .int .i64 0] 33) := (hF3.block W.heap.size (by omega) (by omega)).trans hr2; obtain ⟨d0, d1, d2, d3⟩ := tok_cells hr3; have d4 := Lib.frozen_of_heap hr3; have d5 : W3.shape? W.heap.size = some (33, 4) := (by simp [World.shape?, hr3]))
    have hB4 := put4_below (W := W3) (Nat.le_refl W.heap.size) (.int .i64 9) (.string S) (.int .i64 (at' : Int)) (.int .i64 ((at' : Int) + S.size))
    have hr4 := put4_heap hr3 (.int .i64 9) (.string S) (.int .i64 (at' : Int)) (.int .i64 ((at' : Int) + S.size))
    obtain ⟨W4, hW4⟩ : ∃ W4, ((((W3.setCell ⟨W.heap.size, 0, none⟩ (.int .i64 9)).setCell ⟨W.heap.size, 1, none⟩ (.string S)).setCell ⟨W.heap.size, 2, none⟩ (.int .i64 (at' : Int))).setCell ⟨W.heap.size, 3, none⟩ (.int .i64 ((at' : Int) + S.size))) = W4 := ⟨_, rfl⟩
    rw [hW4] at hB4 hr4 ⊢
    clear hW4
    obtain ⟨e0, e1, e2, e3⟩ := tok_cells hr4
    have hF1 : Fr (fun k => k = M) W W2 := (Fr.refl _ W).below (hB1.trans (hB2'.mono hB1.size))
    refine bodyPost_ret (v := .tuple #[.agg #[.int .i64 9, .string S, .int .i64 (at' : Int), .int .i64 ((at' : Int) + S.size)], .bool true]) ?_ rfl ⟨rfl, hM3.below hB4 hml, (hF1.trans hF3).below hB4⟩
    clear d0 d1 d2 d3 d4 d5
    simp [results, Tryd.results56, go_sem, e0, e1, e2, e3])
end Go.Proofs.YtpdkeggiokebmaaDoor

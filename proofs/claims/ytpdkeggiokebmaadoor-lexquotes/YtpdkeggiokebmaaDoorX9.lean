/- lex's machine: the string of the known text. -/
import Derived.LoopN
import Derived.WalkMore
import Derived.Deep.RegionWith
import Derived.Deep.QuietTactic
import Derived.BigQuiet
import Derived.Test.YtpdkeggiokebmaaDoorF1
import Derived.Test.YtpdkeggiokebmaaDoorSh
import Derived.Test.YtpdkeggiokebmaaDoorX4
import Derived.Test.YtpdkeggiokebmaaDoorX8
namespace Go.Proofs.YtpdkeggiokebmaaDoor
set_option linter.unusedSimpArgs false
set_option linter.unusedVariables false
open Go.RowKit Go.Shelf

set_option maxHeartbeats 400000 in
theorem escape_n (c : Nat) (a : Option Addr) (n cap : Nat) (g : Nat → Int) (W : World) (hS : Sl W c (.slice a n cap) n g) (hn : 2 ≤ n) (hl : n ≤ 1099511627776) (h1 : g 1 = 110) :
    Calls Tryd.prog 68 #[.slice a n cap] W fun x W' => x = .returned (.tuple #[.int .i32 10, .int .i64 2]) ∧ W' = W := by
  obtain ⟨off, cap', hv, h0, h3, h2, hcs⟩ : ∃ off cap', Value.slice a n cap = .slice (some ⟨c, off, none⟩) n cap' ∧ 0 < n ∧ n ≤ cap' ∧ cap' ≤ maxLen ∧ ∀ j, j < n → W.cell? ⟨c, off + j, none⟩ = some (.int .u8 (g j)) := by
    rcases hS with ⟨_, _, h, h0⟩ | h
    · omega
    · exact h
  cases hv
  unfold maxLen at h2
  have hc1 := hcs 1 (by omega)
  rw [h1] at hc1
  have n1 : ¬ (n : Int) < 2 := by omega
  have n2 : (1 : Int) < n := by omega
  clear hcs hS
  go_enter Tryd.func68, Tryd.ntmps68
  go_wp2
  go_ret2
  exact ⟨rfl, rfl⟩

theorem dec_low {g : Nat → Int} (hg : ∀ j, 0 ≤ g j ∧ g j ≤ 255) {len i : Nat} (hi : i < len) (h : g i < 128) : dRune g len i = g i ∧ dSize g len i = 1 ∧ dGood g len i = true := by
  have hw : wid (g i) = 1 := by simp [wid, h]
  have hd : dig (g i) = g i := by simp [dig, h]
  have hl : lst (g i) = 0 := by simp [lst, h]
  have h0 := (hg i).1
  have hgd : good g len i = true := by
    simp only [good, hw, hl, Bool.and_eq_true, decide_eq_true_eq]
    refine ⟨⟨⟨⟨by omega, by omega⟩, rfl⟩, ?_⟩, ?_⟩
    · show 0 ≤ dig (g i)
      omega
    · show alw (dig (g i)) = true
      rw [hd]
      simp [alw]
      omega
  obtain ⟨e1, e2, e3⟩ := dYes hi hgd
  rw [hw] at e1 e2
  refine ⟨?_, by simpa using e2, e3⟩
  rw [e1]
  exact hd

attribute [local go_sem] tokV
set_option maxRecDepth 100000 in
set_option maxHeartbeats 1000000 in
theorem quoted_k (M c : Nat) (a : Option Addr) (len cap : Nat) (g : Nat → Int) (hg : ∀ j, 0 ≤ g j ∧ g j ≤ 255) (at' : Nat) (ov : Value) (W : World) (h : MAt W M (.slice a len cap) at' ov) (hS : Sl W c (.slice a len cap) len g) (hc : c < W.heap.size) (hat : at' + 4 < len) (hlen : len ≤ 1099511627776)
    (g1 : g (at' + 1) = 97) (g2 : g (at' + 2) = 92) (g3 : g (at' + 3) = 110) (g4 : g (at' + 4) = 34) :
    Calls Tryd.prog 52 #[.pointer (some ⟨M, 0, none⟩), .int .i32 34] W fun x W' => x = .returned (.tuple #[tokV 4 ⟨#[97, 10]⟩ at' (at' + 5), .bool true]) ∧ MAt W' M (.slice a len cap) (at' + 5) ov ∧ Fr (fun k => k = M) W W' := by
  obtain ⟨W1, hW1⟩ : ∃ W1, (W.alloc (.cells #[.int .i64 0, .string ⟨#[]⟩, .int .i64 0, .int .i64 0] 33)).alloc (.cells #[.pointer none, .slice none 0 0] 52) = W1 := ⟨_, rfl⟩
  have hB1 : Below W.heap.size W W1 := by rw [← hW1]; exact ((Below.refl _ W).alloc (Nat.le_refl _) _).alloc (by simp) _
  have hz1 : W1.heap.size = W.heap.size + 1 + 1 := by rw [← hW1]; simp
  have hr1 : W1.heap[W.heap.size]? = some (.cells #[.int .i64 0, .string ⟨#[]⟩, .int .i64 0, .int .i64 0] 33) := by rw [← hW1]; exact (Below.heap_alloc _ _ _ (by simp)).trans (World.alloc_heap_new W _)
  have hb1 : BAt (W.heap.size + 1) (W.heap.size + 1) (.pointer none) (.slice none 0 0) [] W1 := by
    refine ⟨Nat.le_refl _, ?_, World.ownsRow_nil _ _ _ _, by simp [Value.ownBlock]⟩
    have := World.alloc_heap_new (W.alloc (.cells #[.int .i64 0, .string ⟨#[]⟩, .int .i64 0, .int .i64 0] 33)) (.cells #[.pointer none, .slice none 0 0] 52)
    rw [World.size_alloc] at this
    rw [← hW1]; exact this
  have hM1 := h.below hB1 h.lt
  have hml := h.lt
  have HSA : Hid (∀ W', Below W.heap.size W W' → Sl W' c (.slice a len cap) len g) := fun W' hb => hS.keep (fun k e => by subst e; exact hb.block k hc)
  have c0 := hM1.c0
  have c1 := hM1.c1
  have HD : Hid (∀ (i : Nat) (W' : World), Below W.heap.size W W' → i < len → g i < 128 → Calls Tryd.prog 38 #[.slice a len cap, .int .i64 (i : Int)] W' fun e w' => e = .returned (.tuple #[.int .i32 (g i), .int .i64 1, .bool true]) ∧ w' = W') := fun i W' hb hi hl => by
    have := decode_sl hg (unhide HSA W' hb) (i : Int)
    obtain ⟨e1, e2, e3⟩ := dec_low hg hi hl
    rw [e1, e2, e3] at this
    exact this
  have D1 := hide (unhide HD (at' + 1) W1 hB1 (by omega) (by omega))
  rw [g1] at D1
  have HB1 := hide hb1
  clear hS hb1
  go_enter Tryd.func52, Tryd.ntmps52
  go_wp2
  go_step3
  go_wp2
  go_step3
  go_wp2
  clear hW1
  refine wp_loop_rounds 3 ?_
  rw [rounds_succ]
  go_wp2_with (go_at_call 38; refine (unhide D1).mono ?_; rintro x w' ⟨rfl, hw⟩; subst w')
  refine (wr_ascii (W.heap.size + 1) (W.heap.size + 1) _ _ [] 97 W1 (.inl rfl) (unhide HB1) (by omega) (by omega) (by simp) (by omega)).mono ?_
  rintro x W2 ⟨⟨u2, rfl⟩, v2, hb2, hBl2⟩
  have hB2 : Below W.heap.size W W2 := hB1.trans (hBl2.mono (by omega))
  have hM2 := hM1.below hBl2 (by omega)
  have c0' := hM2.c0
  have D2 := hide (unhide HD (at' + 2) W2 hB2 (by omega) (by omega))
  rw [g2] at D2
  obtain ⟨a', c', hsl, hk⟩ := slice_from (unhide HSA W2 hB2) (lo := at' + 2) (by omega)
  have hsl2 : ∀ W', (Instr.slice 22 (.slice a len cap) (some (.int .i64 ((at' : Int) + 1 + 1))) none none).run Tryd.prog W' = .ok (.slice a' (len - (at' + 2)) c') W' := hsl
  have E2 := hide (escape_n c a' (len - (at' + 2)) c' _ W2 (hk _ (unhide HSA W2 hB2)) (by omega) (by omega) (by show g (at' + 2 + 1) = 110; exact g3))
  have HB2 := hide hb2
  have hz2 := hBl2.size
  clear hk hsl hb2
  go_wp2
  rw [rounds_succ]
  go_wp2_with (first | (go_at_call 38; refine (unhide D2).mono ?_; rintro x w' ⟨rfl, hw⟩; subst w') | (go_at_call 68; refine (unhide E2).mono ?_; rintro x w' ⟨rfl, hw⟩; subst w'))
  refine (wr_ascii (W.heap.size + 1) (W.heap.size + 1) _ _ _ 10 W2 (.inr rfl) (unhide HB2) (by omega) (by omega) (by simp) (by omega)).mono ?_
  rintro x W3 ⟨⟨u3, rfl⟩, v3, hb3, hBl3⟩
  have hB3 : Below W.heap.size W W3 := hB2.trans (hBl3.mono (by omega))
  have hM3 := hM2.below hBl3 (by omega)
  have c03 := hM3.c0
  have D3 := hide (unhide HD (at' + 4) W3 hB3 (by omega) (by omega))
  rw [g4] at D3
  have HB3 := hide hb3
  have hz3 := hBl3.size
  clear hb3 hsl2
  go_wp2
  rw [rounds_succ]
  go_wp2_with (go_at_call 38; refine (unhide D3).mono ?_; rintro x w' ⟨rfl, hw⟩; subst w')
  have hb3' : BAt (W.heap.size + 1) (W.heap.size + 1) (.pointer (some ⟨W.heap.size + 1, 0, none⟩)) v3 (Lib.byteCells [97, 10]) W3 := unhide HB3
  refine (Tryd.Builder_String_k (W.heap.size + 1) (W.heap.size + 1) _ W3 (.inr hb3'.is) (by omega)).mono ?_
  rintro x W4 ⟨rfl, hBl4, _⟩
  have hBr : Below (W.heap.size + 1) W1 W4 := (hBl2.trans hBl3).trans hBl4
  have hr4 := (hBr.block W.heap.size (by omega)).trans hr1
  have hM4 := hM3.below hBl4 (by omega)
  have hz4 := hBl4.size
  have c04 := hM4.c0
  go_wp2_with (go_at_call 66; refine (take_any M _ ov at' 4 _ _ W4 hM4).mono ?_; rintro x W5 ⟨rfl, hM5, hF5⟩; have hr5 : W5.heap[W.heap.size]? = some (.cells #[.int .i64 0, .string ⟨#[]⟩, .int .i64 0, .int .i64 0] 33) := (hF5.block W.heap.size (by omega) (by omega)).trans hr4; obtain ⟨d0, d1, d2, d3⟩ := tok_cells hr5; have d4 := Lib.frozen_of_heap hr5; have d5 : W5.shape? W.heap.size = some (33, 4) := (by simp [World.shape?, hr5]))
  have hB6 := put4_below (W := W5) (Nat.le_refl W.heap.size) (.int .i64 4) (.string ⟨#[97, 10]⟩) (.int .i64 (at' : Int)) (.int .i64 ((at' : Int) + 1 + 1 + 2 + 1))
  have hr6 := put4_heap hr5 (.int .i64 4) (.string ⟨#[97, 10]⟩) (.int .i64 (at' : Int)) (.int .i64 ((at' : Int) + 1 + 1 + 2 + 1))
  obtain ⟨W6, hW6⟩ : ∃ W6, ((((W5.setCell ⟨W.heap.size, 0, none⟩ (.int .i64 4)).setCell ⟨W.heap.size, 1, none⟩ (.string ⟨#[97, 10]⟩)).setCell ⟨W.heap.size, 2, none⟩ (.int .i64 (at' : Int))).setCell ⟨W.heap.size, 3, none⟩ (.int .i64 ((at' : Int) + 1 + 1 + 2 + 1))) = W6 := ⟨_, rfl⟩
  rw [hW6] at hB6 hr6 ⊢
  clear hW6
  obtain ⟨e0, e1, e2, e3⟩ := tok_cells hr6
  have hF1 : Fr (fun k => k = M) W W4 := (Fr.refl _ W).below (hB1.trans (hBr.mono (by omega)))
  have he5 : ((at' : Int) + 1 + 1 + 2 + 1) = (at' : Int) + 5 := by omega
  rw [Exit.noGoto_ret]
  refine bodyPost_ret (v := .tuple #[.agg #[.int .i64 4, .string ⟨#[97, 10]⟩, .int .i64 (at' : Int), .int .i64 ((at' : Int) + 1 + 1 + 2 + 1)], .bool true]) ?_ rfl ⟨by rw [he5]; rfl, by rw [← he5]; exact hM5.below hB6 hml, (hF1.trans hF5).below hB6⟩
  clear d0 d1 d2 d3 d4 d5
  simp [results, Tryd.results52, go_sem, e0, e1, e2, e3]
end Go.Proofs.YtpdkeggiokebmaaDoor

/- lex's machine: a word. -/
import Derived.Deep.RegionWith
import Derived.Deep.QuietTactic
import Derived.BigQuiet
import Derived.Test.YtpdkeggiokebmaaDoorX2
namespace Go.Proofs.YtpdkeggiokebmaaDoor
set_option linter.unusedSimpArgs false
set_option linter.unusedVariables false
open Go.RowKit Go.Shelf

/-- From i on stand bytes of a kind up to e, and no further. -/
def Stop (p : Int → Bool) (g : Nat → Int) (len i e : Nat) : Prop := i ≤ e ∧ e ≤ len ∧ (∀ j, i ≤ j → j < e → p (g j) = true) ∧ (e = len ∨ p (g e) = false)
theorem Stop.unique {p : Int → Bool} {g : Nat → Int} {len i e e' : Nat} (h : Stop p g len i e) (h' : Stop p g len i e') : e = e' := by
  obtain ⟨a1, a2, a3, a4⟩ := h
  obtain ⟨b1, b2, b3, b4⟩ := h'
  rcases Nat.lt_trichotomy e e' with hlt | rfl | hlt
  · rcases a4 with rfl | h
    · omega
    · have := b3 e a1 hlt; rw [h] at this; cases this
  · rfl
  · rcases b4 with rfl | h
    · omega
    · have := a3 e' b1 hlt; rw [h] at this; cases this
theorem stop_exists (p : Int → Bool) (g : Nat → Int) (len : Nat) : ∀ n i, len - i = n → i ≤ len → ∃ e, Stop p g len i e
  | 0, i, h, hi => ⟨i, Nat.le_refl _, hi, fun j h1 h2 => by omega, .inl (by omega)⟩
  | n + 1, i, h, hi => by
    cases hp : p (g i) with
    | false => exact ⟨i, Nat.le_refl _, hi, fun j h1 h2 => by omega, .inr hp⟩
    | true =>
      obtain ⟨e, h1, h2, h3, h4⟩ := stop_exists p g len n (i + 1) (by omega) (by omega)
      refine ⟨e, by omega, h2, fun j hj1 hj2 => ?_, h4⟩
      by_cases hj : j = i
      · subst hj; exact hp
      · exact h3 j (by omega) hj2
def isLD (c : Int) : Bool := isL c || isD c

theorem put4_heap {W : World} {R : Nat} {x0 x1 x2 x3 : Value} (h : W.heap[R]? = some (.cells #[x0, x1, x2, x3] 33)) (y0 y1 y2 y3 : Value) : ((((W.setCell ⟨R, 0, none⟩ y0).setCell ⟨R, 1, none⟩ y1).setCell ⟨R, 2, none⟩ y2).setCell ⟨R, 3, none⟩ y3).heap[R]? = some (.cells #[y0, y1, y2, y3] 33) := by
  simp [World.setCell, Array.getElem?_modify, h]
theorem put4_below {W : World} {R n : Nat} (hn : n ≤ R) (y0 y1 y2 y3 : Value) : Below n W ((((W.setCell ⟨R, 0, none⟩ y0).setCell ⟨R, 1, none⟩ y1).setCell ⟨R, 2, none⟩ y2).setCell ⟨R, 3, none⟩ y3) :=
  ((((Below.refl n W).setCell (p := ⟨R, 0, none⟩) hn _).setCell (p := ⟨R, 1, none⟩) hn _).setCell (p := ⟨R, 2, none⟩) hn _).setCell (p := ⟨R, 3, none⟩) hn _
/-- Four cells that are a token are read back. -/
theorem tok_cells {W : World} {R : Nat} {y0 y1 y2 y3 : Value} (h : W.heap[R]? = some (.cells #[y0, y1, y2, y3] 33)) : W.cell? ⟨R, 0, none⟩ = some y0 ∧ W.cell? ⟨R, 1, none⟩ = some y1 ∧ W.cell? ⟨R, 2, none⟩ = some y2 ∧ W.cell? ⟨R, 3, none⟩ = some y3 := by
  refine ⟨?_, ?_, ?_, ?_⟩ <;> (rw [Lib.cell_of_heap h]; rfl)
attribute [local go_sem] tokV
set_option maxRecDepth 100000 in
set_option maxHeartbeats 1000000 in
theorem word_any (M c : Nat) (a : Option Addr) (len cap : Nat) (g : Nat → Int) (at' e : Nat) (ov : Value) (rv : Bool) (W : World) (h : MAt W M (.slice a len cap) at' ov) (hS : Sl W c (.slice a len cap) len g) (hc : c < W.heap.size) (hat : at' < len) (hlen : len ≤ 1099511627776)
    (he : Stop isLD g len (at' + 1) e) (hres : ∀ W : World, Calls Tryd.prog 65 #[.string (strOfNums (sub g at' e))] W fun x W' => x = .returned (.bool rv) ∧ W' = W) :
    Calls Tryd.prog 49 #[.pointer (some ⟨M, 0, none⟩)] W fun x W' => x = .returned (tokV (if rv then 2 else 1) (strOfNums (sub g at' e)) at' e) ∧ MAt W' M (.slice a len cap) e ov ∧ Fr (fun k => k = M) W W' := by
  obtain ⟨W1, hW1⟩ : ∃ W1, W.alloc (.cells #[.int .i64 0, .string ⟨#[]⟩, .int .i64 0, .int .i64 0] 33) = W1 := ⟨_, rfl⟩
  have hB1 : Below W.heap.size W W1 := by rw [← hW1]; exact (Below.refl _ W).alloc (Nat.le_refl _) _
  have hz1 : W1.heap.size = W.heap.size + 1 := by rw [← hW1]; simp
  have hr1 : W1.heap[W.heap.size]? = some (.cells #[.int .i64 0, .string ⟨#[]⟩, .int .i64 0, .int .i64 0] 33) := by rw [← hW1]; exact World.alloc_heap_new W _
  have hM1 := h.below hB1 h.lt
  have hS1 := hS.keep (B := W1) (fun k e => by subst e; exact hB1.block k hc)
  have c0 := hM1.c0
  have c1 := hM1.c1
  have hml := h.lt
  obtain ⟨sv', hsl, hcv0⟩ := cut_conv hS1 (by have := he.1; omega : at' ≤ e) he.2.1
  have hcv : ∀ N, (convert 22 9 sv').run Tryd.prog (W1.drewN N) = .ok (.string (strOfNums (sub g at' e))) (W1.drewN N) := fun N => hcv0 _ (hS1.keep (fun _ _ => rfl))
  obtain ⟨off, cap', hv, h0, h1, h2, hcs⟩ : ∃ off cap', Value.slice a len cap = .slice (some ⟨c, off, none⟩) len cap' ∧ 0 < len ∧ len ≤ cap' ∧ cap' ≤ maxLen ∧ ∀ j, j < len → W1.cell? ⟨c, off + j, none⟩ = some (.int .u8 (g j)) := by
    rcases hS1 with ⟨_, _, h, h0⟩ | h
    · omega
    · exact h
  cases hv
  unfold maxLen at h2
  have HCS := hide hcs
  have HE := hide he
  have hek : e ≤ len := he.2.1
  have HRS := hide hres
  clear hS hS1 hcv0 hcs he hres
  go_enter Tryd.func49, Tryd.ntmps49
  go_wp2
  clear hW1
  go_loopw [3] (fun t wr => ∃ k : Nat, at' + 1 ≤ k ∧ k ≤ e ∧ t = .int .i64 (k : Int) ∧ wr = W1) (fun t _ => len - (intOf t).toNat)
  case atStart => exact ⟨at' + 1, Nat.le_refl _, (unhide HE).1, rfl, rfl⟩
  case round =>
    obtain ⟨k, hk1, hk2, rfl, hw⟩ := hrel
    subst wr
    by_cases hlt : k < len
    · have hlt' : (k : Int) < len := by omega
      have hck := unhide HCS k hlt
      by_cases hke : k < e
      · have hp := (unhide HE).2.2.1 k hk1 hke
        unfold isLD at hp
        cases hL : isL (g k) with
        | true =>
          go_wp2_with (first | (go_at_call 48; refine (isLetter_any _ _).mono ?_; rintro x w' ⟨rfl, hw⟩; subst w') | (go_at_call 50; refine (isDigit_any _ _).mono ?_; rintro x w' ⟨rfl, hw⟩; subst w'))
          exact ⟨⟨k + 1, by omega, by omega, by go_num, trivial⟩, by simp [intOf]; omega⟩
        | false =>
          have hD : isD (g k) = true := by rw [hL] at hp; simpa using hp
          go_wp2_with (first | (go_at_call 48; refine (isLetter_any _ _).mono ?_; rintro x w' ⟨rfl, hw⟩; subst w') | (go_at_call 50; refine (isDigit_any _ _).mono ?_; rintro x w' ⟨rfl, hw⟩; subst w'))
          exact ⟨⟨k + 1, by omega, by omega, by go_num, trivial⟩, by simp [intOf]; omega⟩
      · obtain rfl : k = e := by omega
        have hp : isLD (g k) = false := by
          rcases (unhide HE).2.2.2 with h | h
          · omega
          · exact h
        unfold isLD at hp
        have hL : isL (g k) = false := by cases h : isL (g k) <;> simp [h] at hp ⊢
        have hD : isD (g k) = false := by cases h : isD (g k) <;> simp [h] at hp ⊢
        go_wp2_with (first | (go_at_call 48; refine (isLetter_any _ _).mono ?_; rintro x w' ⟨rfl, hw⟩; subst w') | (go_at_call 50; refine (isDigit_any _ _).mono ?_; rintro x w' ⟨rfl, hw⟩; subst w'))
        go_quiet (fail)
        cases rv with
        | true =>
          go_wp2_with (first | (go_at_call 65; refine (unhide HRS _).mono ?_; rintro x w' ⟨rfl, hw⟩; subst w') | (go_at_call 66; refine (take_any M _ ov at' 2 _ _ (W1.drewN nq) hM1).mono ?_; rintro x W2 ⟨rfl, hM2, hF2⟩; have hr2 : W2.heap[W.heap.size]? = some (.cells #[.int .i64 0, .string ⟨#[]⟩, .int .i64 0, .int .i64 0] 33) := (hF2.block W.heap.size (by show W.heap.size < W1.heap.size; omega) (by omega)).trans hr1; have d0 : W2.cell? ⟨W.heap.size, 0, none⟩ = some (.int .i64 0) := (by rw [Lib.cell_of_heap hr2]; rfl); have d1 : W2.cell? ⟨W.heap.size, 1, none⟩ = some (.string ⟨#[]⟩) := (by rw [Lib.cell_of_heap hr2]; rfl); have d2 : W2.cell? ⟨W.heap.size, 2, none⟩ = some (.int .i64 0) := (by rw [Lib.cell_of_heap hr2]; rfl); have d3 : W2.cell? ⟨W.heap.size, 3, none⟩ = some (.int .i64 0) := (by rw [Lib.cell_of_heap hr2]; rfl); have d4 := Lib.frozen_of_heap hr2; have d5 : W2.shape? W.heap.size = some (33, 4) := (by simp [World.shape?, hr2])))
          have hB4 := put4_below (W := W2) (Nat.le_refl W.heap.size) (.int .i64 2) (.string (strOfNums (sub g at' k))) (.int .i64 (at' : Int)) (.int .i64 (k : Int))
          have hr4 := put4_heap hr2 (.int .i64 2) (.string (strOfNums (sub g at' k))) (.int .i64 (at' : Int)) (.int .i64 (k : Int))
          obtain ⟨W4, hW4⟩ : ∃ W4, ((((W2.setCell ⟨W.heap.size, 0, none⟩ (.int .i64 2)).setCell ⟨W.heap.size, 1, none⟩ (.string (strOfNums (sub g at' k)))).setCell ⟨W.heap.size, 2, none⟩ (.int .i64 (at' : Int))).setCell ⟨W.heap.size, 3, none⟩ (.int .i64 (k : Int))) = W4 := ⟨_, rfl⟩
          rw [hW4] at hB4 hr4 ⊢
          clear hW4
          obtain ⟨e0, e1, e2, e3⟩ := tok_cells hr4
          have hF1 : Fr (fun k => k = M) W (W1.drewN nq) := (Fr.refl _ W).below (hB1.trans ⟨rfl, rfl, rfl, Nat.le_refl _, fun _ _ => rfl⟩)
          refine bodyPost_ret (v := .agg #[.int .i64 2, .string (strOfNums (sub g at' k)), .int .i64 (at' : Int), .int .i64 (k : Int)]) ?_ rfl ⟨rfl, hM2.below hB4 hml, (hF1.trans hF2).below hB4⟩
          clear d0 d1 d2 d3 d4 d5
          simp [results, Tryd.results49, go_sem, e0, e1, e2, e3]
        | false =>
          go_wp2_with (first | (go_at_call 65; refine (unhide HRS _).mono ?_; rintro x w' ⟨rfl, hw⟩; subst w') | (go_at_call 66; refine (take_any M _ ov at' 1 _ _ (W1.drewN nq) hM1).mono ?_; rintro x W2 ⟨rfl, hM2, hF2⟩; have hr2 : W2.heap[W.heap.size]? = some (.cells #[.int .i64 0, .string ⟨#[]⟩, .int .i64 0, .int .i64 0] 33) := (hF2.block W.heap.size (by show W.heap.size < W1.heap.size; omega) (by omega)).trans hr1; have d0 : W2.cell? ⟨W.heap.size, 0, none⟩ = some (.int .i64 0) := (by rw [Lib.cell_of_heap hr2]; rfl); have d1 : W2.cell? ⟨W.heap.size, 1, none⟩ = some (.string ⟨#[]⟩) := (by rw [Lib.cell_of_heap hr2]; rfl); have d2 : W2.cell? ⟨W.heap.size, 2, none⟩ = some (.int .i64 0) := (by rw [Lib.cell_of_heap hr2]; rfl); have d3 : W2.cell? ⟨W.heap.size, 3, none⟩ = some (.int .i64 0) := (by rw [Lib.cell_of_heap hr2]; rfl); have d4 := Lib.frozen_of_heap hr2; have d5 : W2.shape? W.heap.size = some (33, 4) := (by simp [World.shape?, hr2])))
          have hB4 := put4_below (W := W2) (Nat.le_refl W.heap.size) (.int .i64 1) (.string (strOfNums (sub g at' k))) (.int .i64 (at' : Int)) (.int .i64 (k : Int))
          have hr4 := put4_heap hr2 (.int .i64 1) (.string (strOfNums (sub g at' k))) (.int .i64 (at' : Int)) (.int .i64 (k : Int))
          obtain ⟨W4, hW4⟩ : ∃ W4, ((((W2.setCell ⟨W.heap.size, 0, none⟩ (.int .i64 1)).setCell ⟨W.heap.size, 1, none⟩ (.string (strOfNums (sub g at' k)))).setCell ⟨W.heap.size, 2, none⟩ (.int .i64 (at' : Int))).setCell ⟨W.heap.size, 3, none⟩ (.int .i64 (k : Int))) = W4 := ⟨_, rfl⟩
          rw [hW4] at hB4 hr4 ⊢
          clear hW4
          obtain ⟨e0, e1, e2, e3⟩ := tok_cells hr4
          have hF1 : Fr (fun k => k = M) W (W1.drewN nq) := (Fr.refl _ W).below (hB1.trans ⟨rfl, rfl, rfl, Nat.le_refl _, fun _ _ => rfl⟩)
          refine bodyPost_ret (v := .agg #[.int .i64 1, .string (strOfNums (sub g at' k)), .int .i64 (at' : Int), .int .i64 (k : Int)]) ?_ rfl ⟨rfl, hM2.below hB4 hml, (hF1.trans hF2).below hB4⟩
          clear d0 d1 d2 d3 d4 d5
          simp [results, Tryd.results49, go_sem, e0, e1, e2, e3]
    · have hlt' : ¬ (k : Int) < len := by omega
      have hltb : decide ((k : Int) < len) = false := by simpa using hlt'
      have hltn : decide (k < len) = false := by simpa using hlt
      obtain rfl : k = e := by omega
      go_wp2
      go_quiet (fail)
      cases rv with
      | true =>
        go_wp2_with (first | (go_at_call 65; refine (unhide HRS _).mono ?_; rintro x w' ⟨rfl, hw⟩; subst w') | (go_at_call 66; refine (take_any M _ ov at' 2 _ _ (W1.drewN nq) hM1).mono ?_; rintro x W2 ⟨rfl, hM2, hF2⟩; have hr2 : W2.heap[W.heap.size]? = some (.cells #[.int .i64 0, .string ⟨#[]⟩, .int .i64 0, .int .i64 0] 33) := (hF2.block W.heap.size (by show W.heap.size < W1.heap.size; omega) (by omega)).trans hr1; have d0 : W2.cell? ⟨W.heap.size, 0, none⟩ = some (.int .i64 0) := (by rw [Lib.cell_of_heap hr2]; rfl); have d1 : W2.cell? ⟨W.heap.size, 1, none⟩ = some (.string ⟨#[]⟩) := (by rw [Lib.cell_of_heap hr2]; rfl); have d2 : W2.cell? ⟨W.heap.size, 2, none⟩ = some (.int .i64 0) := (by rw [Lib.cell_of_heap hr2]; rfl); have d3 : W2.cell? ⟨W.heap.size, 3, none⟩ = some (.int .i64 0) := (by rw [Lib.cell_of_heap hr2]; rfl); have d4 := Lib.frozen_of_heap hr2; have d5 : W2.shape? W.heap.size = some (33, 4) := (by simp [World.shape?, hr2])))
        have hB4 := put4_below (W := W2) (Nat.le_refl W.heap.size) (.int .i64 2) (.string (strOfNums (sub g at' k))) (.int .i64 (at' : Int)) (.int .i64 (k : Int))
        have hr4 := put4_heap hr2 (.int .i64 2) (.string (strOfNums (sub g at' k))) (.int .i64 (at' : Int)) (.int .i64 (k : Int))
        obtain ⟨W4, hW4⟩ : ∃ W4, ((((W2.setCell ⟨W.heap.size, 0, none⟩ (.int .i64 2)).setCell ⟨W.heap.size, 1, none⟩ (.string (strOfNums (sub g at' k)))).setCell ⟨W.heap.size, 2, none⟩ (.int .i64 (at' : Int))).setCell ⟨W.heap.size, 3, none⟩ (.int .i64 (k : Int))) = W4 := ⟨_, rfl⟩
        rw [hW4] at hB4 hr4 ⊢
        clear hW4
        obtain ⟨e0, e1, e2, e3⟩ := tok_cells hr4
        have hF1 : Fr (fun k => k = M) W (W1.drewN nq) := (Fr.refl _ W).below (hB1.trans ⟨rfl, rfl, rfl, Nat.le_refl _, fun _ _ => rfl⟩)
        refine bodyPost_ret (v := .agg #[.int .i64 2, .string (strOfNums (sub g at' k)), .int .i64 (at' : Int), .int .i64 (k : Int)]) ?_ rfl ⟨rfl, hM2.below hB4 hml, (hF1.trans hF2).below hB4⟩
        clear d0 d1 d2 d3 d4 d5
        simp [results, Tryd.results49, go_sem, e0, e1, e2, e3]
      | false =>
        go_wp2_with (first | (go_at_call 65; refine (unhide HRS _).mono ?_; rintro x w' ⟨rfl, hw⟩; subst w') | (go_at_call 66; refine (take_any M _ ov at' 1 _ _ (W1.drewN nq) hM1).mono ?_; rintro x W2 ⟨rfl, hM2, hF2⟩; have hr2 : W2.heap[W.heap.size]? = some (.cells #[.int .i64 0, .string ⟨#[]⟩, .int .i64 0, .int .i64 0] 33) := (hF2.block W.heap.size (by show W.heap.size < W1.heap.size; omega) (by omega)).trans hr1; have d0 : W2.cell? ⟨W.heap.size, 0, none⟩ = some (.int .i64 0) := (by rw [Lib.cell_of_heap hr2]; rfl); have d1 : W2.cell? ⟨W.heap.size, 1, none⟩ = some (.string ⟨#[]⟩) := (by rw [Lib.cell_of_heap hr2]; rfl); have d2 : W2.cell? ⟨W.heap.size, 2, none⟩ = some (.int .i64 0) := (by rw [Lib.cell_of_heap hr2]; rfl); have d3 : W2.cell? ⟨W.heap.size, 3, none⟩ = some (.int .i64 0) := (by rw [Lib.cell_of_heap hr2]; rfl); have d4 := Lib.frozen_of_heap hr2; have d5 : W2.shape? W.heap.size = some (33, 4) := (by simp [World.shape?, hr2])))
        have hB4 := put4_below (W := W2) (Nat.le_refl W.heap.size) (.int .i64 1) (.string (strOfNums (sub g at' k))) (.int .i64 (at' : Int)) (.int .i64 (k : Int))
        have hr4 := put4_heap hr2 (.int .i64 1) (.string (strOfNums (sub g at' k))) (.int .i64 (at' : Int)) (.int .i64 (k : Int))
        obtain ⟨W4, hW4⟩ : ∃ W4, ((((W2.setCell ⟨W.heap.size, 0, none⟩ (.int .i64 1)).setCell ⟨W.heap.size, 1, none⟩ (.string (strOfNums (sub g at' k)))).setCell ⟨W.heap.size, 2, none⟩ (.int .i64 (at' : Int))).setCell ⟨W.heap.size, 3, none⟩ (.int .i64 (k : Int))) = W4 := ⟨_, rfl⟩
        rw [hW4] at hB4 hr4 ⊢
        clear hW4
        obtain ⟨e0, e1, e2, e3⟩ := tok_cells hr4
        have hF1 : Fr (fun k => k = M) W (W1.drewN nq) := (Fr.refl _ W).below (hB1.trans ⟨rfl, rfl, rfl, Nat.le_refl _, fun _ _ => rfl⟩)
        refine bodyPost_ret (v := .agg #[.int .i64 1, .string (strOfNums (sub g at' k)), .int .i64 (at' : Int), .int .i64 (k : Int)]) ?_ rfl ⟨rfl, hM2.below hB4 hml, (hF1.trans hF2).below hB4⟩
        clear d0 d1 d2 d3 d4 d5
        simp [results, Tryd.results49, go_sem, e0, e1, e2, e3]
end Go.Proofs.YtpdkeggiokebmaaDoor

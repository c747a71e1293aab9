/- Merged: RO, RV, RW. -/
import Derived.BigQuiet
import Derived.Deep.AppendLies
import Derived.Deep.QuietTactic
import Derived.Deep.RegionWith
import Derived.LoopN
import Derived.WalkMore
import Derived.Test.YtpdkeggiokebmaaDoorHF
import Derived.Test.YtpdkeggiokebmaaDoorHH
import Derived.Test.YtpdkeggiokebmaaDoorHK
import Derived.Test.YtpdkeggiokebmaaDoorHL
import Derived.Test.YtpdkeggiokebmaaDoorN2
/- The reference's next: words, templates. -/
namespace Go.Proofs.YtpdkeggiokebmaaDoor
set_option linter.unusedSimpArgs false
set_option linter.unusedVariables false
open Go.RowKit Go.Shelf

attribute [local go_sem] tokV
/-- A word's kind. -/
def wordK (S : ByteArray) : Int := if hasT wordL S then 2 else 1
set_option maxRecDepth 100000 in
set_option maxHeartbeats 4000000 in
theorem rnext_word (c : Nat) (a : Option Addr) (len cap : Nat) (g : Nat → Int) (hg : ∀ j, 0 ≤ g j ∧ g j ≤ 255) (at' : Nat) (hv : Value) (bs : List Bool) (W : World) (hS : Sl W c (.slice a len cap) len g) (hc : c < W.heap.size) (hO : HOL W hv bs) (hat : at' < len) (hlen : len ≤ 1099511627776) (hbl : bs.length ≤ 1099511627776) (hL : isL (g at') = true) :
    Calls Tryd.prog 32 #[.slice a len cap, .int .i64 (at' : Int), hv] W (RNV W at' (some (wordK (strOfNums (sub g at' (stopI isLD g len (at' + 1)))), sub g at' (stopI isLD g len (at' + 1)), stopI isLD g len (at' + 1), bs))) := by
  have HO := hide hO
  obtain ⟨a2, cap2, rfl, ho1, ho2, ho3⟩ := hO.opn
  clear hO
  unfold maxLen at ho2
  obtain ⟨W1, hW1⟩ : ∃ W1, W.alloc (.cells #[.int .i64 0, .string ⟨#[]⟩, .int .i64 0, .int .i64 0] 33) = W1 := ⟨_, rfl⟩
  have hB1 : Below W.heap.size W W1 := by rw [← hW1]; exact (Below.refl _ W).alloc (Nat.le_refl _) _
  have hz1 : W1.heap.size = W.heap.size + 1 := by rw [← hW1]; simp
  have hr1 : W1.heap[W.heap.size]? = some (.cells #[.int .i64 0, .string ⟨#[]⟩, .int .i64 0, .int .i64 0] 33) := by rw [← hW1]; exact World.alloc_heap_new W _
  have hS1 := hS.keep (B := W1) (fun k e => by subst e; exact hB1.block k hc)
  obtain ⟨off, rfl, h1, h2, hcs⟩ := unhide (sl_cells hS1) (by omega)
  unfold maxLen at h2
  have hck := hcs at' hat
  have n1 : (at' : Int) < len := by omega
  have HCS := hide hcs
  have HS1 := hide hS1
  clear hS hS1 hcs
  have hz1' : W.heap.size < W1.heap.size := by omega
  clear hz1
  obtain ⟨s1, s2, s3, s4⟩ := stopI_spec (p := isLD) (g := g) (len := len) (i := at' + 1) (by omega)
  obtain ⟨e', he'⟩ : ∃ e', stopI isLD g len (at' + 1) = e' := ⟨_, rfl⟩
  rw [he'] at s1 s2 s3 s4 ⊢
  obtain ⟨S, hSx⟩ : ∃ S, strOfNums (sub g at' e') = S := ⟨_, rfl⟩
  obtain ⟨sv, hsl, hcv⟩ := cut_conv (unhide HS1) (xf := at') (xt := e') (by omega) s2
  have hcv1 := hcv W1 (unhide HS1)
  rw [hSx] at hcv1
  have HSX := hide hSx
  have HLD : Hid (∀ j, at' ≤ j → j < e' → isL (g j) = true ∨ (isL (g j) = false ∧ isD (g j) = true)) := fun j h1 h2 => by
    by_cases h : j = at'
    · rw [h]; exact .inl hL
    · have := s3 j (by omega) h2
      unfold isLD at this
      cases hl : isL (g j) with
      | true => exact .inl rfl
      | false => rw [hl, Bool.false_or] at this; exact .inr ⟨rfl, this⟩
  have HEE : Hid (e' = len ∨ (isL (g e') = false ∧ isD (g e') = false)) := by
    rcases s4 with h | h
    · exact .inl h
    · unfold isLD at h
      exact .inr (by simpa using h)
  obtain ⟨W3, hW3⟩ : ∃ W3, W1.alloc (.cells #[.int .i64 1, .string S, .int .i64 (at' : Int), .int .i64 (e' : Int)] 33) = W3 := ⟨_, rfl⟩
  have hz3 : W1.heap.size < W3.heap.size := by rw [← hW3]; simp
  have hB3 : Below W1.heap.size W1 W3 := by rw [← hW3]; exact (Below.refl _ _).alloc (Nat.le_refl _) _
  have ht3 : W3.heap[W1.heap.size]? = some (.cells #[.int .i64 1, .string S, .int .i64 (at' : Int), .int .i64 (e' : Int)] 33) := by rw [← hW3]; exact World.alloc_heap_new _ _
  obtain ⟨t0, t1, t2, t3⟩ := tok_cells ht3
  have HRS := hide (reserved_any S W3)
  have HT3 := hide ht3
  clear s3 s4 hSx hcv he'
  go_enter Tryd.func32, Tryd.ntmps32
  go_wp2_with (first | (go_at_call 40; refine (rLetter_any _ _).mono ?_; rintro x w' ⟨rfl, hw⟩; subst w') | (go_at_call 41; refine (rDigit_any _ _).mono ?_; rintro x w' ⟨rfl, hw⟩; subst w'))
  clear hW1
  go_loopw [10] (fun t wr => ∃ j : Nat, at' ≤ j ∧ j ≤ e' ∧ t = .int .i64 (j : Int) ∧ wr = W1) (fun t _ => len - (intOf t).toNat)
  case atStart => exact ⟨at', Nat.le_refl _, by omega, rfl, rfl⟩
  case round =>
    obtain ⟨j, hj1, hj2, rfl, hw⟩ := hrel
    subst wr
    by_cases hje : j < e'
    · have hjl : (j : Int) < len := by omega
      have hjd : decide ((j : Int) < len) = true := decide_eq_true hjl
      have hcj := unhide HCS j (by omega)
      rcases unhide HLD j hj1 hje with hLj | ⟨hLj, hDj⟩
      · go_wp2_with (first | (go_at_call 40; refine (rLetter_any _ _).mono ?_; rintro x w' ⟨rfl, hw⟩; subst w') | (go_at_call 41; refine (rDigit_any _ _).mono ?_; rintro x w' ⟨rfl, hw⟩; subst w'))
        exact ⟨⟨j + 1, by omega, by omega, by go_num, trivial⟩, by simp [intOf]; omega⟩
      · go_wp2_with (first | (go_at_call 40; refine (rLetter_any _ _).mono ?_; rintro x w' ⟨rfl, hw⟩; subst w') | (go_at_call 41; refine (rDigit_any _ _).mono ?_; rintro x w' ⟨rfl, hw⟩; subst w'))
        exact ⟨⟨j + 1, by omega, by omega, by go_num, trivial⟩, by simp [intOf]; omega⟩
    · obtain rfl : j = e' := by omega
      rcases unhide HEE with hel | ⟨hLj, hDj⟩
      · have hjl : ¬ (j : Int) < len := by omega
        have hjd : decide ((j : Int) < len) = false := decide_eq_false hjl
        clear hel
        cases hres : hasT wordL S with
        | true =>
          rw [hres] at HRS
          go_wp2_with (first | (go_at_call 40; refine (rLetter_any _ _).mono ?_; rintro x w' ⟨rfl, hw⟩; subst w') | (go_at_call 41; refine (rDigit_any _ _).mono ?_; rintro x w' ⟨rfl, hw⟩; subst w') | (go_at_call 42; refine (unhide HRS).mono ?_; rintro x W4 ⟨rfl, hB4⟩; have ht4 := (hB4.block W1.heap.size (by omega)).trans (unhide HT3); obtain ⟨t0, t1, t2, t3⟩ := tok_cells ht4; have t4 := Lib.frozen_of_heap ht4; have t5 : W4.shape? W1.heap.size = some (33, 4) := (by simp [World.shape?, ht4]); have hr4 : W4.heap[W.heap.size]? = some (.cells #[.int .i64 0, .string ⟨#[]⟩, .int .i64 0, .int .i64 0] 33) := (hB4.block W.heap.size (by omega)).trans ((hB3.block W.heap.size (by omega)).trans hr1); obtain ⟨d0, d1, d2, d3⟩ := tok_cells hr4; have d4 := Lib.frozen_of_heap hr4; have d5 : W4.shape? W.heap.size = some (33, 4) := (by simp [World.shape?, hr4]); have hz4 := hB4.size))
          have hr5 : (W4.setCell ⟨W1.heap.size, 0, none⟩ (.int .i64 2)).heap[W.heap.size]? = some (.cells #[.int .i64 0, .string ⟨#[]⟩, .int .i64 0, .int .i64 0] 33) := (Below.heap_setCell _ ⟨W1.heap.size, 0, none⟩ _ _ (by show W.heap.size ≠ W1.heap.size; omega)).trans hr4
          have hB6 := put4_below (W := (W4.setCell ⟨W1.heap.size, 0, none⟩ (.int .i64 2))) (Nat.le_refl W.heap.size) (.int .i64 2) (.string S) ((.int .i64 (at' : Int))) ((.int .i64 (j : Int)))
          have hr6 := put4_heap hr5 (.int .i64 2) (.string S) ((.int .i64 (at' : Int))) ((.int .i64 (j : Int)))
          obtain ⟨W6, hW6⟩ : ∃ W6, (((((W4.setCell ⟨W1.heap.size, 0, none⟩ (.int .i64 2)).setCell ⟨W.heap.size, 0, none⟩ (.int .i64 2)).setCell ⟨W.heap.size, 1, none⟩ (.string S)).setCell ⟨W.heap.size, 2, none⟩ ((.int .i64 (at' : Int)))).setCell ⟨W.heap.size, 3, none⟩ ((.int .i64 (j : Int)))) = W6 := ⟨_, rfl⟩
          rw [hW6] at hB6 hr6 ⊢
          clear hW6
          obtain ⟨e0, e1, e2, e3⟩ := tok_cells hr6
          have hBF : Below W.heap.size W W6 := (((hB1.trans (hB3.mono (by omega))).trans (hB4.mono (by omega))).setCell (p := ⟨W1.heap.size, 0, none⟩) (by show W.heap.size ≤ W1.heap.size; omega) _).trans hB6
          try rw [Exit.noGoto_ret]
          refine bodyPost_ret (v := .tuple #[.agg #[.int .i64 2, .string S, (.int .i64 (at' : Int)), (.int .i64 (j : Int))], .slice a2 bs.length cap2, .bool true]) ?_ rfl ⟨⟨_, by rw [show strOfNums (sub g at' j) = S from unhide HSX]; unfold wordK; rw [hres]; rfl, (unhide HO).below hBF⟩, hBF⟩
          clear d0 d1 d2 d3 d4 d5 t0 t1 t2 t3 t4 t5
          simp [results, Tryd.results32, go_sem, e0, e1, e2, e3]
        | false =>
          rw [hres] at HRS
          go_wp2_with (first | (go_at_call 40; refine (rLetter_any _ _).mono ?_; rintro x w' ⟨rfl, hw⟩; subst w') | (go_at_call 41; refine (rDigit_any _ _).mono ?_; rintro x w' ⟨rfl, hw⟩; subst w') | (go_at_call 42; refine (unhide HRS).mono ?_; rintro x W4 ⟨rfl, hB4⟩; have ht4 := (hB4.block W1.heap.size (by omega)).trans (unhide HT3); obtain ⟨t0, t1, t2, t3⟩ := tok_cells ht4; have t4 := Lib.frozen_of_heap ht4; have t5 : W4.shape? W1.heap.size = some (33, 4) := (by simp [World.shape?, ht4]); have hr5 : W4.heap[W.heap.size]? = some (.cells #[.int .i64 0, .string ⟨#[]⟩, .int .i64 0, .int .i64 0] 33) := (hB4.block W.heap.size (by omega)).trans ((hB3.block W.heap.size (by omega)).trans hr1); obtain ⟨d0, d1, d2, d3⟩ := tok_cells hr5; have d4 := Lib.frozen_of_heap hr5; have d5 : W4.shape? W.heap.size = some (33, 4) := (by simp [World.shape?, hr5]); have hz4 := hB4.size))
          have hB6 := put4_below (W := W4) (Nat.le_refl W.heap.size) (.int .i64 1) (.string S) ((.int .i64 (at' : Int))) ((.int .i64 (j : Int)))
          have hr6 := put4_heap hr5 (.int .i64 1) (.string S) ((.int .i64 (at' : Int))) ((.int .i64 (j : Int)))
          obtain ⟨W6, hW6⟩ : ∃ W6, ((((W4.setCell ⟨W.heap.size, 0, none⟩ (.int .i64 1)).setCell ⟨W.heap.size, 1, none⟩ (.string S)).setCell ⟨W.heap.size, 2, none⟩ ((.int .i64 (at' : Int)))).setCell ⟨W.heap.size, 3, none⟩ ((.int .i64 (j : Int)))) = W6 := ⟨_, rfl⟩
          rw [hW6] at hB6 hr6 ⊢
          clear hW6
          obtain ⟨e0, e1, e2, e3⟩ := tok_cells hr6
          have hBF : Below W.heap.size W W6 := ((hB1.trans (hB3.mono (by omega))).trans (hB4.mono (by omega))).trans hB6
          try rw [Exit.noGoto_ret]
          refine bodyPost_ret (v := .tuple #[.agg #[.int .i64 1, .string S, (.int .i64 (at' : Int)), (.int .i64 (j : Int))], .slice a2 bs.length cap2, .bool true]) ?_ rfl ⟨⟨_, by rw [show strOfNums (sub g at' j) = S from unhide HSX]; unfold wordK; rw [hres]; rfl, (unhide HO).below hBF⟩, hBF⟩
          clear d0 d1 d2 d3 d4 d5 t0 t1 t2 t3 t4 t5
          simp [results, Tryd.results32, go_sem, e0, e1, e2, e3]

      · by_cases hjn : j < len
        · have hjl : (j : Int) < len := by omega
          have hjd : decide ((j : Int) < len) = true := decide_eq_true hjl
          have hcj := unhide HCS j hjn
          cases hres : hasT wordL S with
          | true =>
            rw [hres] at HRS
            go_wp2_with (first | (go_at_call 40; refine (rLetter_any _ _).mono ?_; rintro x w' ⟨rfl, hw⟩; subst w') | (go_at_call 41; refine (rDigit_any _ _).mono ?_; rintro x w' ⟨rfl, hw⟩; subst w') | (go_at_call 42; refine (unhide HRS).mono ?_; rintro x W4 ⟨rfl, hB4⟩; have ht4 := (hB4.block W1.heap.size (by omega)).trans (unhide HT3); obtain ⟨t0, t1, t2, t3⟩ := tok_cells ht4; have t4 := Lib.frozen_of_heap ht4; have t5 : W4.shape? W1.heap.size = some (33, 4) := (by simp [World.shape?, ht4]); have hr4 : W4.heap[W.heap.size]? = some (.cells #[.int .i64 0, .string ⟨#[]⟩, .int .i64 0, .int .i64 0] 33) := (hB4.block W.heap.size (by omega)).trans ((hB3.block W.heap.size (by omega)).trans hr1); obtain ⟨d0, d1, d2, d3⟩ := tok_cells hr4; have d4 := Lib.frozen_of_heap hr4; have d5 : W4.shape? W.heap.size = some (33, 4) := (by simp [World.shape?, hr4]); have hz4 := hB4.size))
            have hr5 : (W4.setCell ⟨W1.heap.size, 0, none⟩ (.int .i64 2)).heap[W.heap.size]? = some (.cells #[.int .i64 0, .string ⟨#[]⟩, .int .i64 0, .int .i64 0] 33) := (Below.heap_setCell _ ⟨W1.heap.size, 0, none⟩ _ _ (by show W.heap.size ≠ W1.heap.size; omega)).trans hr4
            have hB6 := put4_below (W := (W4.setCell ⟨W1.heap.size, 0, none⟩ (.int .i64 2))) (Nat.le_refl W.heap.size) (.int .i64 2) (.string S) ((.int .i64 (at' : Int))) ((.int .i64 (j : Int)))
            have hr6 := put4_heap hr5 (.int .i64 2) (.string S) ((.int .i64 (at' : Int))) ((.int .i64 (j : Int)))
            obtain ⟨W6, hW6⟩ : ∃ W6, (((((W4.setCell ⟨W1.heap.size, 0, none⟩ (.int .i64 2)).setCell ⟨W.heap.size, 0, none⟩ (.int .i64 2)).setCell ⟨W.heap.size, 1, none⟩ (.string S)).setCell ⟨W.heap.size, 2, none⟩ ((.int .i64 (at' : Int)))).setCell ⟨W.heap.size, 3, none⟩ ((.int .i64 (j : Int)))) = W6 := ⟨_, rfl⟩
            rw [hW6] at hB6 hr6 ⊢
            clear hW6
            obtain ⟨e0, e1, e2, e3⟩ := tok_cells hr6
            have hBF : Below W.heap.size W W6 := (((hB1.trans (hB3.mono (by omega))).trans (hB4.mono (by omega))).setCell (p := ⟨W1.heap.size, 0, none⟩) (by show W.heap.size ≤ W1.heap.size; omega) _).trans hB6
            try rw [Exit.noGoto_ret]
            refine bodyPost_ret (v := .tuple #[.agg #[.int .i64 2, .string S, (.int .i64 (at' : Int)), (.int .i64 (j : Int))], .slice a2 bs.length cap2, .bool true]) ?_ rfl ⟨⟨_, by rw [show strOfNums (sub g at' j) = S from unhide HSX]; unfold wordK; rw [hres]; rfl, (unhide HO).below hBF⟩, hBF⟩
            clear d0 d1 d2 d3 d4 d5 t0 t1 t2 t3 t4 t5
            simp [results, Tryd.results32, go_sem, e0, e1, e2, e3]
          | false =>
            rw [hres] at HRS
            go_wp2_with (first | (go_at_call 40; refine (rLetter_any _ _).mono ?_; rintro x w' ⟨rfl, hw⟩; subst w') | (go_at_call 41; refine (rDigit_any _ _).mono ?_; rintro x w' ⟨rfl, hw⟩; subst w') | (go_at_call 42; refine (unhide HRS).mono ?_; rintro x W4 ⟨rfl, hB4⟩; have ht4 := (hB4.block W1.heap.size (by omega)).trans (unhide HT3); obtain ⟨t0, t1, t2, t3⟩ := tok_cells ht4; have t4 := Lib.frozen_of_heap ht4; have t5 : W4.shape? W1.heap.size = some (33, 4) := (by simp [World.shape?, ht4]); have hr5 : W4.heap[W.heap.size]? = some (.cells #[.int .i64 0, .string ⟨#[]⟩, .int .i64 0, .int .i64 0] 33) := (hB4.block W.heap.size (by omega)).trans ((hB3.block W.heap.size (by omega)).trans hr1); obtain ⟨d0, d1, d2, d3⟩ := tok_cells hr5; have d4 := Lib.frozen_of_heap hr5; have d5 : W4.shape? W.heap.size = some (33, 4) := (by simp [World.shape?, hr5]); have hz4 := hB4.size))
            have hB6 := put4_below (W := W4) (Nat.le_refl W.heap.size) (.int .i64 1) (.string S) ((.int .i64 (at' : Int))) ((.int .i64 (j : Int)))
            have hr6 := put4_heap hr5 (.int .i64 1) (.string S) ((.int .i64 (at' : Int))) ((.int .i64 (j : Int)))
            obtain ⟨W6, hW6⟩ : ∃ W6, ((((W4.setCell ⟨W.heap.size, 0, none⟩ (.int .i64 1)).setCell ⟨W.heap.size, 1, none⟩ (.string S)).setCell ⟨W.heap.size, 2, none⟩ ((.int .i64 (at' : Int)))).setCell ⟨W.heap.size, 3, none⟩ ((.int .i64 (j : Int)))) = W6 := ⟨_, rfl⟩
            rw [hW6] at hB6 hr6 ⊢
            clear hW6
            obtain ⟨e0, e1, e2, e3⟩ := tok_cells hr6
            have hBF : Below W.heap.size W W6 := ((hB1.trans (hB3.mono (by omega))).trans (hB4.mono (by omega))).trans hB6
            try rw [Exit.noGoto_ret]
            refine bodyPost_ret (v := .tuple #[.agg #[.int .i64 1, .string S, (.int .i64 (at' : Int)), (.int .i64 (j : Int))], .slice a2 bs.length cap2, .bool true]) ?_ rfl ⟨⟨_, by rw [show strOfNums (sub g at' j) = S from unhide HSX]; unfold wordK; rw [hres]; rfl, (unhide HO).below hBF⟩, hBF⟩
            clear d0 d1 d2 d3 d4 d5 t0 t1 t2 t3 t4 t5
            simp [results, Tryd.results32, go_sem, e0, e1, e2, e3]

        · have hjl : ¬ (j : Int) < len := by omega
          have hjd : decide ((j : Int) < len) = false := decide_eq_false hjl
          clear hjn
          cases hres : hasT wordL S with
          | true =>
            rw [hres] at HRS
            go_wp2_with (first | (go_at_call 40; refine (rLetter_any _ _).mono ?_; rintro x w' ⟨rfl, hw⟩; subst w') | (go_at_call 41; refine (rDigit_any _ _).mono ?_; rintro x w' ⟨rfl, hw⟩; subst w') | (go_at_call 42; refine (unhide HRS).mono ?_; rintro x W4 ⟨rfl, hB4⟩; have ht4 := (hB4.block W1.heap.size (by omega)).trans (unhide HT3); obtain ⟨t0, t1, t2, t3⟩ := tok_cells ht4; have t4 := Lib.frozen_of_heap ht4; have t5 : W4.shape? W1.heap.size = some (33, 4) := (by simp [World.shape?, ht4]); have hr4 : W4.heap[W.heap.size]? = some (.cells #[.int .i64 0, .string ⟨#[]⟩, .int .i64 0, .int .i64 0] 33) := (hB4.block W.heap.size (by omega)).trans ((hB3.block W.heap.size (by omega)).trans hr1); obtain ⟨d0, d1, d2, d3⟩ := tok_cells hr4; have d4 := Lib.frozen_of_heap hr4; have d5 : W4.shape? W.heap.size = some (33, 4) := (by simp [World.shape?, hr4]); have hz4 := hB4.size))
            have hr5 : (W4.setCell ⟨W1.heap.size, 0, none⟩ (.int .i64 2)).heap[W.heap.size]? = some (.cells #[.int .i64 0, .string ⟨#[]⟩, .int .i64 0, .int .i64 0] 33) := (Below.heap_setCell _ ⟨W1.heap.size, 0, none⟩ _ _ (by show W.heap.size ≠ W1.heap.size; omega)).trans hr4
            have hB6 := put4_below (W := (W4.setCell ⟨W1.heap.size, 0, none⟩ (.int .i64 2))) (Nat.le_refl W.heap.size) (.int .i64 2) (.string S) ((.int .i64 (at' : Int))) ((.int .i64 (j : Int)))
            have hr6 := put4_heap hr5 (.int .i64 2) (.string S) ((.int .i64 (at' : Int))) ((.int .i64 (j : Int)))
            obtain ⟨W6, hW6⟩ : ∃ W6, (((((W4.setCell ⟨W1.heap.size, 0, none⟩ (.int .i64 2)).setCell ⟨W.heap.size, 0, none⟩ (.int .i64 2)).setCell ⟨W.heap.size, 1, none⟩ (.string S)).setCell ⟨W.heap.size, 2, none⟩ ((.int .i64 (at' : Int)))).setCell ⟨W.heap.size, 3, none⟩ ((.int .i64 (j : Int)))) = W6 := ⟨_, rfl⟩
            rw [hW6] at hB6 hr6 ⊢
            clear hW6
            obtain ⟨e0, e1, e2, e3⟩ := tok_cells hr6
            have hBF : Below W.heap.size W W6 := (((hB1.trans (hB3.mono (by omega))).trans (hB4.mono (by omega))).setCell (p := ⟨W1.heap.size, 0, none⟩) (by show W.heap.size ≤ W1.heap.size; omega) _).trans hB6
            try rw [Exit.noGoto_ret]
            refine bodyPost_ret (v := .tuple #[.agg #[.int .i64 2, .string S, (.int .i64 (at' : Int)), (.int .i64 (j : Int))], .slice a2 bs.length cap2, .bool true]) ?_ rfl ⟨⟨_, by rw [show strOfNums (sub g at' j) = S from unhide HSX]; unfold wordK; rw [hres]; rfl, (unhide HO).below hBF⟩, hBF⟩
            clear d0 d1 d2 d3 d4 d5 t0 t1 t2 t3 t4 t5
            simp [results, Tryd.results32, go_sem, e0, e1, e2, e3]
          | false =>
            rw [hres] at HRS
            go_wp2_with (first | (go_at_call 40; refine (rLetter_any _ _).mono ?_; rintro x w' ⟨rfl, hw⟩; subst w') | (go_at_call 41; refine (rDigit_any _ _).mono ?_; rintro x w' ⟨rfl, hw⟩; subst w') | (go_at_call 42; refine (unhide HRS).mono ?_; rintro x W4 ⟨rfl, hB4⟩; have ht4 := (hB4.block W1.heap.size (by omega)).trans (unhide HT3); obtain ⟨t0, t1, t2, t3⟩ := tok_cells ht4; have t4 := Lib.frozen_of_heap ht4; have t5 : W4.shape? W1.heap.size = some (33, 4) := (by simp [World.shape?, ht4]); have hr5 : W4.heap[W.heap.size]? = some (.cells #[.int .i64 0, .string ⟨#[]⟩, .int .i64 0, .int .i64 0] 33) := (hB4.block W.heap.size (by omega)).trans ((hB3.block W.heap.size (by omega)).trans hr1); obtain ⟨d0, d1, d2, d3⟩ := tok_cells hr5; have d4 := Lib.frozen_of_heap hr5; have d5 : W4.shape? W.heap.size = some (33, 4) := (by simp [World.shape?, hr5]); have hz4 := hB4.size))
            have hB6 := put4_below (W := W4) (Nat.le_refl W.heap.size) (.int .i64 1) (.string S) ((.int .i64 (at' : Int))) ((.int .i64 (j : Int)))
            have hr6 := put4_heap hr5 (.int .i64 1) (.string S) ((.int .i64 (at' : Int))) ((.int .i64 (j : Int)))
            obtain ⟨W6, hW6⟩ : ∃ W6, ((((W4.setCell ⟨W.heap.size, 0, none⟩ (.int .i64 1)).setCell ⟨W.heap.size, 1, none⟩ (.string S)).setCell ⟨W.heap.size, 2, none⟩ ((.int .i64 (at' : Int)))).setCell ⟨W.heap.size, 3, none⟩ ((.int .i64 (j : Int)))) = W6 := ⟨_, rfl⟩
            rw [hW6] at hB6 hr6 ⊢
            clear hW6
            obtain ⟨e0, e1, e2, e3⟩ := tok_cells hr6
            have hBF : Below W.heap.size W W6 := ((hB1.trans (hB3.mono (by omega))).trans (hB4.mono (by omega))).trans hB6
            try rw [Exit.noGoto_ret]
            refine bodyPost_ret (v := .tuple #[.agg #[.int .i64 1, .string S, (.int .i64 (at' : Int)), (.int .i64 (j : Int))], .slice a2 bs.length cap2, .bool true]) ?_ rfl ⟨⟨_, by rw [show strOfNums (sub g at' j) = S from unhide HSX]; unfold wordK; rw [hres]; rfl, (unhide HO).below hBF⟩, hBF⟩
            clear d0 d1 d2 d3 d4 d5 t0 t1 t2 t3 t4 t5
            simp [results, Tryd.results32, go_sem, e0, e1, e2, e3]

end Go.Proofs.YtpdkeggiokebmaaDoor

/- The reference's next: a closing brace; all together. -/
namespace Go.Proofs.YtpdkeggiokebmaaDoor
set_option linter.unusedSimpArgs false
set_option linter.unusedVariables false
open Go.RowKit Go.Shelf

attribute [local go_sem] tokV
theorem sg125_all : ∀ s ∈ sgnR, s.data[0]? = some 125 → (s.data.toList == [125]) = true := by decide +kernel
theorem mtch_125 {g : Nat → Int} {len at' k : Nat} {s : ByteArray} (h125 : g at' = 125) (hk : sgnR[k]? = some s) (hm : mtch g len at' s) : (s.toList == [123]) = false ∧ (s.toList == [125]) = true := by
  have hin := List.mem_of_getElem? hk
  have hsz := (sgnR_in s hin).1
  have heq : (strOfNums (sub g at' (at' + s.size))).toList = s.toList := beq_iff_eq.1 hm.2
  rw [Lib.strOfNums_toList, sub_upto, ba_toList] at heq
  have h0 : s.data.toList[0]? = some 125 := by
    rw [← heq]
    simp [Lib.bytesOf, upto, show 0 < s.size by omega, h125]
  have h1 := sg125_all s hin (by simpa using h0)
  rw [ba_toList]
  refine ⟨?_, h1⟩
  rw [beq_iff_eq.1 h1]
  decide
set_option maxRecDepth 100000 in
set_option maxHeartbeats 4000000 in
theorem rnext_sg2 (c : Nat) (a : Option Addr) (len cap : Nat) (g : Nat → Int) (hg : ∀ j, 0 ≤ g j ∧ g j ≤ 255) (at' : Nat) (hv : Value) (bs : List Bool) (W : World) (hS : Sl W c (.slice a len cap) len g) (hc : c < W.heap.size) (hO : HOL W hv bs) (hat : at' < len) (hlen : len ≤ 1099511627776) (hbl : bs.length ≤ 1099511627776) (h125 : g at' = 125) (hbe : bs = []) :
    Calls Tryd.prog 32 #[.slice a len cap, .int .i64 (at' : Int), hv] W (RNV W at' (sigQ g len at' bs)) := by
  have HS0 := hide hS
  have HO := hide hO
  obtain ⟨a2, cap2, rfl, ho1, ho2, ho3⟩ := hO.opn
  clear hO
  unfold maxLen at ho2
  obtain ⟨W1, hW1⟩ : ∃ W1, W.alloc (.cells #[.int .i64 0, .string ⟨#[]⟩, .int .i64 0, .int .i64 0] 33) = W1 := ⟨_, rfl⟩
  have hB1 : Below W.heap.size W W1 := by rw [← hW1]; exact (Below.refl _ W).alloc (Nat.le_refl _) _
  have hz1 : W1.heap.size = W.heap.size + 1 := by rw [← hW1]; simp
  have hr1 : W1.heap[W.heap.size]? = some (.cells #[.int .i64 0, .string ⟨#[]⟩, .int .i64 0, .int .i64 0] 33) := by rw [← hW1]; exact World.alloc_heap_new W _
  have hS1 := hS.keep (B := W1) (fun k e => by subst e; exact hB1.block k hc)
  obtain ⟨off, rfl, h1, h2, hcs⟩ := unhide (sl_cells hS1) (by omega)
  unfold maxLen at h2
  have hck := hcs at' hat
  have n1 : (at' : Int) < len := by omega
  have HCS := hide hcs
  have HS1 := hide hS1
  clear hS1 hcs
  have hW1s : W.heap.size < W1.heap.size := by omega
  have hS0' := unhide HS0
  clear hS
  rw [h125] at hck
  have hL : isL 125 = false := by decide
  have hD : isD 125 = false := by decide
  have HS0 : Hid (Sl W c (.slice (some ⟨c, off, none⟩) len cap) len g) := hS0'
  clear hS0' hz1
  subst hbe
  have HSI := hide (signs_any W1)
  go_enter Tryd.func32, Tryd.ntmps32
  go_wp2_with (first | (go_at_call 40; refine (rLetter_any _ _).mono ?_; rintro x w' ⟨rfl, hw⟩; subst w') | (go_at_call 41; refine (rDigit_any _ _).mono ?_; rintro x w' ⟨rfl, hw⟩; subst w') | (go_at_call 46; refine (unhide HSI).mono ?_; rintro x W2 ⟨rfl, hTx, hB2⟩; have HTX := hide hTx; clear hTx))
  clear hW1
  go_loopw [2, 23] (fun hvv t wr => hvv = .slice a2 0 cap2 ∧ ∃ k : Nat, k ≤ 37 ∧ t = .int .i64 (k : Int) ∧ Hid (NoM g len at' k) ∧ Hid (Below W.heap.size W wr) ∧ wr.heap[W.heap.size]? = some (.cells #[.int .i64 0, .string ⟨#[]⟩, .int .i64 0, .int .i64 0] 33) ∧ Hid (Txts wr W1.heap.size 0 sgnR)) (fun _ t _ => 37 - (intOf t).toNat)
  case atStart => exact ⟨rfl, 0, Nat.zero_le _, rfl, fun j s' hj => by omega, hB1.trans (hB2.mono hB1.size), (hB2.block W.heap.size (by omega)).trans hr1, unhide HTX⟩
  case round =>
    obtain ⟨rfl, k, hk, rfl, HNO, HBW, hrw, HTW⟩ := hrel
    clear HTX
    obtain ⟨d0, d1, d2, d3⟩ := tok_cells hrw
    have d4 := Lib.frozen_of_heap hrw
    have d5 : wr.shape? W.heap.size = some (33, 4) := by simp [World.shape?, hrw]
    have hRw : W.heap.size < wr.heap.size := (Array.getElem?_eq_some_iff.1 hrw).1
    have HSw : Hid (∀ W', Below W.heap.size W W' → Sl W' c (.slice (some ⟨c, off, none⟩) len cap) len g) := fun W' hb => (unhide HS0).keep (fun k e => by subst e; exact hb.block k hc)
    by_cases hlt : k < 37
    · have hlt' : (k : Int) < 37 := by omega
      obtain ⟨s, hs⟩ : ∃ s, sgnR[k]? = some s := ⟨_, List.getElem?_eq_getElem (by show k < 37; exact hlt)⟩
      have hcell := unhide HTW k s hs
      rw [Nat.zero_add] at hcell
      have hsz := (sgnR_in s (List.mem_of_getElem? hs)).1
      have hs3 : s.size ≤ 3 := by omega
      have HK := hide hs
      clear hs hsz
      by_cases hle : at' + s.size ≤ len
      · have hle' : (at' : Int) + s.size ≤ len := by omega
        have hled : decide ((at' : Int) + s.size ≤ len) = true := decide_eq_true hle'
        obtain ⟨sv, hsl, hcv⟩ := cut_conv (unhide HSw wr (unhide HBW)) (xf := at') (xt := at' + s.size) (by omega) hle
        have hsl2 : ∀ W', (Instr.slice 22 (.slice (some ⟨c, off, none⟩) len cap) (some (.int .i64 (at' : Int))) (some (.int .i64 ((at' : Int) + s.size))) none).run Tryd.prog W' = .ok sv W' := hsl
        obtain ⟨X, hX⟩ : ∃ X, strOfNums (sub g at' (at' + s.size)) = X := ⟨_, rfl⟩
        have hcv2 : ∀ N, (convert 22 9 sv).run Tryd.prog (wr.drewN N) = .ok (.string X) (wr.drewN N) := fun N => by rw [← hX]; exact hcv _ (unhide HSw wr (unhide HBW))
        cases hxe : (X.toList == s.toList) with
        | true =>
          have hM : mtch g len at' s := ⟨hle, by rw [hX]; exact hxe⟩
          obtain ⟨t, hst, hsig⟩ := sig_yes hg (bs := []) (unhide HK) hM (unhide HNO)
          obtain ⟨hb1, hb2⟩ := mtch_125 h125 (unhide HK) hM
          have HSG2 : Hid (sigQ g len at' [] = some (9, t, at' + s.size, [])) := by show _ = _; rw [hsig, if_neg (by rw [hb1]; decide), if_pos hb2]; rfl
          have HST := hide hst
          clear hM hst hsig hsl hcv hX
          go_wp2
          go_quiet (fail)
          go_wp2
          have hB6 := put4_below (W := (wr.drewN nq)) (Nat.le_refl W.heap.size) (.int .i64 9) (.string s) ((.int .i64 (at' : Int))) ((.int .i64 ((at' : Int) + s.size)))
          have hr6 := put4_heap (show (wr.drewN nq).heap[W.heap.size]? = _ from hrw) (.int .i64 9) (.string s) ((.int .i64 (at' : Int))) ((.int .i64 ((at' : Int) + s.size)))
          obtain ⟨W6, hW6⟩ : ∃ W6, (((((wr.drewN nq).setCell ⟨W.heap.size, 0, none⟩ (.int .i64 9)).setCell ⟨W.heap.size, 1, none⟩ (.string s)).setCell ⟨W.heap.size, 2, none⟩ ((.int .i64 (at' : Int)))).setCell ⟨W.heap.size, 3, none⟩ ((.int .i64 ((at' : Int) + s.size)))) = W6 := ⟨_, rfl⟩
          rw [hW6] at hB6 hr6 ⊢
          clear hW6
          obtain ⟨e0, e1, e2, e3⟩ := tok_cells hr6
          have hBF : Below W.heap.size W W6 := (below_drewN (unhide HBW) nq).trans hB6
          try rw [Exit.noGoto_ret]
          refine bodyPost_ret (v := .tuple #[.agg #[.int .i64 9, .string s, (.int .i64 (at' : Int)), (.int .i64 ((at' : Int) + s.size))], .slice a2 0 cap2, .bool true]) ?_ rfl (by show RNV W at' (sigQ g len at' _) _ W6; rw [unhide HSG2]; exact ⟨⟨_, by rw [← unhide HST]; rfl, (unhide HO).below hBF⟩, hBF⟩)
          clear d0 d1 d2 d3 d4 d5
          simp [results, Tryd.results32, go_sem, e0, e1, e2, e3]
        | false =>
          have HNO2 : Hid (NoM g len at' (k + 1)) := (unhide HNO).next (unhide HK) (fun h => by have := h.2; rw [hX, hxe] at this; exact absurd this (by decide))
          clear hsl hcv hX
          go_wp2
          go_quiet (fail)
          go_wp2
          exact ⟨⟨rfl, k + 1, by omega, by go_num, HNO2, below_drewN (unhide HBW) _, hrw, unhide HTW⟩, by simp [intOf]; omega⟩
      · have hled : decide ((at' : Int) + s.size ≤ len) = false := decide_eq_false (by omega)
        have HNO2 : Hid (NoM g len at' (k + 1)) := (unhide HNO).next (unhide HK) (fun h => hle h.1)
        go_wp2
        go_quiet (fail)
        go_wp2
        exact ⟨⟨rfl, k + 1, by omega, by go_num, HNO2, below_drewN (unhide HBW) _, hrw, unhide HTW⟩, by simp [intOf]; omega⟩
    · obtain rfl : k = 37 := by omega
      have HSN := hide (sig_no (bs := []) (unhide HNO))
      go_wp2
      have hB6 := put4_below (W := wr) (Nat.le_refl W.heap.size) (.int .i64 0) (.string ⟨#[]⟩) ((.int .i64 0)) ((.int .i64 0))
      have hr6 := put4_heap hrw (.int .i64 0) (.string ⟨#[]⟩) ((.int .i64 0)) ((.int .i64 0))
      obtain ⟨W6, hW6⟩ : ∃ W6, ((((wr.setCell ⟨W.heap.size, 0, none⟩ (.int .i64 0)).setCell ⟨W.heap.size, 1, none⟩ (.string ⟨#[]⟩)).setCell ⟨W.heap.size, 2, none⟩ ((.int .i64 0))).setCell ⟨W.heap.size, 3, none⟩ ((.int .i64 0))) = W6 := ⟨_, rfl⟩
      rw [hW6] at hB6 hr6 ⊢
      clear hW6
      obtain ⟨e0, e1, e2, e3⟩ := tok_cells hr6
      have hBF : Below W.heap.size W W6 := (unhide HBW).trans hB6
      try rw [Exit.noGoto_ret]
      refine bodyPost_ret (v := .tuple #[.agg #[.int .i64 0, .string ⟨#[]⟩, (.int .i64 0), (.int .i64 0)], .slice a2 0 cap2, .bool false]) ?_ rfl (by show RNV W at' (sigQ g len at' _) _ W6; rw [unhide HSN]; exact ⟨⟨_, _, _, _, _, rfl⟩, hBF⟩)
      clear d0 d1 d2 d3 d4 d5
      simp [results, Tryd.results32, go_sem, e0, e1, e2, e3]
set_option maxRecDepth 100000 in
set_option maxHeartbeats 4000000 in
theorem rnext_sg3 (c : Nat) (a : Option Addr) (len cap : Nat) (g : Nat → Int) (hg : ∀ j, 0 ≤ g j ∧ g j ≤ 255) (at' : Nat) (hv : Value) (bs : List Bool) (W : World) (hS : Sl W c (.slice a len cap) len g) (hc : c < W.heap.size) (hO : HOL W hv bs) (hat : at' < len) (hlen : len ≤ 1099511627776) (hbl : bs.length ≤ 1099511627776) (h125 : g at' = 125) (hbp : 0 < bs.length) (hlb : lastB bs = false) :
    Calls Tryd.prog 32 #[.slice a len cap, .int .i64 (at' : Int), hv] W (RNV W at' (sigQ g len at' bs)) := by
  have HS0 := hide hS
  have HO := hide hO
  obtain ⟨a2, cap2, rfl, ho1, ho2, ho3⟩ := hO.opn
  clear hO
  unfold maxLen at ho2
  obtain ⟨W1, hW1⟩ : ∃ W1, W.alloc (.cells #[.int .i64 0, .string ⟨#[]⟩, .int .i64 0, .int .i64 0] 33) = W1 := ⟨_, rfl⟩
  have hB1 : Below W.heap.size W W1 := by rw [← hW1]; exact (Below.refl _ W).alloc (Nat.le_refl _) _
  have hz1 : W1.heap.size = W.heap.size + 1 := by rw [← hW1]; simp
  have hr1 : W1.heap[W.heap.size]? = some (.cells #[.int .i64 0, .string ⟨#[]⟩, .int .i64 0, .int .i64 0] 33) := by rw [← hW1]; exact World.alloc_heap_new W _
  have hS1 := hS.keep (B := W1) (fun k e => by subst e; exact hB1.block k hc)
  obtain ⟨off, rfl, h1, h2, hcs⟩ := unhide (sl_cells hS1) (by omega)
  unfold maxLen at h2
  have hck := hcs at' hat
  have n1 : (at' : Int) < len := by omega
  have HCS := hide hcs
  have HS1 := hide hS1
  clear hS1 hcs
  have hW1s : W.heap.size < W1.heap.size := by omega
  have hS0' := unhide HS0
  clear hS
  rw [h125] at hck
  have hL : isL 125 = false := by decide
  have hD : isD 125 = false := by decide
  have HS0 : Hid (Sl W c (.slice (some ⟨c, off, none⟩) len cap) len g) := hS0'
  clear hS0' hz1
  obtain ⟨m, hm⟩ : ∃ m, bs.length = m + 1 := ⟨bs.length - 1, by omega⟩
  rcases unhide HO with ⟨hvn, hbs⟩ | ⟨hb, ho, hcap, hvs, hh1, hh2, hh3, hh4⟩
  · exfalso
    rw [hbs] at hm
    simp at hm
  injection hvs with ha2 hl2 hc2
  subst ha2 hc2
  have hcl : W1.cell? ⟨hb, ho + m, none⟩ = some (.bool false) := by
    have h0 := hh3 m (by omega)
    rw [World.cell?_of_block (w := W) (hB1.block hb (World.block_lt_of_cell? W _ h0)), h0]
    have : bs.getD m false = false := by
      have h5 := hlb
      simp only [lastB, Bool.and_eq_false_iff, decide_eq_false_iff_not] at h5
      rcases h5 with h5 | h5
      · omega
      · rw [hm] at h5; exact h5
    rw [this]
  have hdl : bs.dropLast.length = m := by rw [List.length_dropLast]; omega
  have HKEEP : Hid (∀ W', Below W.heap.size W W' → HOL W' (.slice (some ⟨hb, ho, none⟩) m cap2) bs.dropLast) := fun W' hB => by
    have : HOL W (.slice (some ⟨hb, ho, none⟩) m cap2) bs.dropLast := .inr ⟨hb, ho, cap2, by rw [hdl], by rw [hdl]; omega, hh2, fun j hj => by
      rw [hh3 j (by omega)]
      congr 2
      rw [List.getD_eq_getElem?_getD, List.getD_eq_getElem?_getD, List.getElem?_dropLast, if_pos (by omega)], hh4⟩
    exact this.below hB
  have hpd : decide ((0 : Int) < ((m + 1 : Nat) : Int)) = true := decide_eq_true (by omega)
  have hmm : m + 1 ≤ cap2 := by omega
  clear hh3 hl2 ho1 hh1 ho3 hdl hlb hbp
  rw [hm]
  clear hm HO
  have HSI := hide (signs_any W1)
  go_enter Tryd.func32, Tryd.ntmps32
  go_wp2_with (first | (go_at_call 40; refine (rLetter_any _ _).mono ?_; rintro x w' ⟨rfl, hw⟩; subst w') | (go_at_call 41; refine (rDigit_any _ _).mono ?_; rintro x w' ⟨rfl, hw⟩; subst w') | (go_at_call 46; refine (unhide HSI).mono ?_; rintro x W2 ⟨rfl, hTx, hB2⟩; have HTX := hide hTx; clear hTx))
  clear hW1
  go_loopw [2, 23] (fun hvv t wr => hvv = .slice (some ⟨hb, ho, none⟩) (m + 1) cap2 ∧ ∃ k : Nat, k ≤ 37 ∧ t = .int .i64 (k : Int) ∧ Hid (NoM g len at' k) ∧ Hid (Below W.heap.size W wr) ∧ wr.heap[W.heap.size]? = some (.cells #[.int .i64 0, .string ⟨#[]⟩, .int .i64 0, .int .i64 0] 33) ∧ Hid (Txts wr W1.heap.size 0 sgnR)) (fun _ t _ => 37 - (intOf t).toNat)
  case atStart => exact ⟨rfl, 0, Nat.zero_le _, rfl, fun j s' hj => by omega, hB1.trans (hB2.mono hB1.size), (hB2.block W.heap.size (by omega)).trans hr1, unhide HTX⟩
  case round =>
    obtain ⟨rfl, k, hk, rfl, HNO, HBW, hrw, HTW⟩ := hrel
    clear HTX
    obtain ⟨d0, d1, d2, d3⟩ := tok_cells hrw
    have d4 := Lib.frozen_of_heap hrw
    have d5 : wr.shape? W.heap.size = some (33, 4) := by simp [World.shape?, hrw]
    have hRw : W.heap.size < wr.heap.size := (Array.getElem?_eq_some_iff.1 hrw).1
    have HSw : Hid (∀ W', Below W.heap.size W W' → Sl W' c (.slice (some ⟨c, off, none⟩) len cap) len g) := fun W' hb => (unhide HS0).keep (fun k e => by subst e; exact hb.block k hc)
    by_cases hlt : k < 37
    · have hlt' : (k : Int) < 37 := by omega
      obtain ⟨s, hs⟩ : ∃ s, sgnR[k]? = some s := ⟨_, List.getElem?_eq_getElem (by show k < 37; exact hlt)⟩
      have hcell := unhide HTW k s hs
      rw [Nat.zero_add] at hcell
      have hsz := (sgnR_in s (List.mem_of_getElem? hs)).1
      have hs3 : s.size ≤ 3 := by omega
      have HK := hide hs
      clear hs hsz
      by_cases hle : at' + s.size ≤ len
      · have hle' : (at' : Int) + s.size ≤ len := by omega
        have hled : decide ((at' : Int) + s.size ≤ len) = true := decide_eq_true hle'
        obtain ⟨sv, hsl, hcv⟩ := cut_conv (unhide HSw wr (unhide HBW)) (xf := at') (xt := at' + s.size) (by omega) hle
        have hsl2 : ∀ W', (Instr.slice 22 (.slice (some ⟨c, off, none⟩) len cap) (some (.int .i64 (at' : Int))) (some (.int .i64 ((at' : Int) + s.size))) none).run Tryd.prog W' = .ok sv W' := hsl
        obtain ⟨X, hX⟩ : ∃ X, strOfNums (sub g at' (at' + s.size)) = X := ⟨_, rfl⟩
        have hcv2 : ∀ N, (convert 22 9 sv).run Tryd.prog (wr.drewN N) = .ok (.string X) (wr.drewN N) := fun N => by rw [← hX]; exact hcv _ (unhide HSw wr (unhide HBW))
        cases hxe : (X.toList == s.toList) with
        | true =>
          have hM : mtch g len at' s := ⟨hle, by rw [hX]; exact hxe⟩
          obtain ⟨t, hst, hsig⟩ := sig_yes hg (bs := bs) (unhide HK) hM (unhide HNO)
          obtain ⟨hb1, hb2⟩ := mtch_125 h125 (unhide HK) hM
          have HSG2 : Hid (sigQ g len at' bs = some (9, t, at' + s.size, bs.dropLast)) := by show _ = _; rw [hsig, if_neg (by rw [hb1]; decide), if_pos hb2]
          have HST := hide hst
          clear hM hst hsig hsl hcv hX
          go_wp2
          go_quiet (fail)
          go_wp2
          have hB6 := put4_below (W := (wr.drewN nq)) (Nat.le_refl W.heap.size) (.int .i64 9) (.string s) ((.int .i64 (at' : Int))) ((.int .i64 ((at' : Int) + s.size)))
          have hr6 := put4_heap (show (wr.drewN nq).heap[W.heap.size]? = _ from hrw) (.int .i64 9) (.string s) ((.int .i64 (at' : Int))) ((.int .i64 ((at' : Int) + s.size)))
          obtain ⟨W6, hW6⟩ : ∃ W6, (((((wr.drewN nq).setCell ⟨W.heap.size, 0, none⟩ (.int .i64 9)).setCell ⟨W.heap.size, 1, none⟩ (.string s)).setCell ⟨W.heap.size, 2, none⟩ ((.int .i64 (at' : Int)))).setCell ⟨W.heap.size, 3, none⟩ ((.int .i64 ((at' : Int) + s.size)))) = W6 := ⟨_, rfl⟩
          rw [hW6] at hB6 hr6 ⊢
          clear hW6
          obtain ⟨e0, e1, e2, e3⟩ := tok_cells hr6
          have hBF : Below W.heap.size W W6 := (below_drewN (unhide HBW) nq).trans hB6
          try rw [Exit.noGoto_ret]
          refine bodyPost_ret (v := .tuple #[.agg #[.int .i64 9, .string s, (.int .i64 (at' : Int)), (.int .i64 ((at' : Int) + s.size))], .slice (some ⟨hb, ho, none⟩) m cap2, .bool true]) ?_ rfl (by show RNV W at' (sigQ g len at' _) _ W6; rw [unhide HSG2]; exact ⟨⟨_, by rw [← unhide HST]; rfl, unhide HKEEP _ hBF⟩, hBF⟩)
          clear d0 d1 d2 d3 d4 d5
          simp [results, Tryd.results32, go_sem, e0, e1, e2, e3]
        | false =>
          have HNO2 : Hid (NoM g len at' (k + 1)) := (unhide HNO).next (unhide HK) (fun h => by have := h.2; rw [hX, hxe] at this; exact absurd this (by decide))
          clear hsl hcv hX
          go_wp2
          go_quiet (fail)
          go_wp2
          exact ⟨⟨rfl, k + 1, by omega, by go_num, HNO2, below_drewN (unhide HBW) _, hrw, unhide HTW⟩, by simp [intOf]; omega⟩
      · have hled : decide ((at' : Int) + s.size ≤ len) = false := decide_eq_false (by omega)
        have HNO2 : Hid (NoM g len at' (k + 1)) := (unhide HNO).next (unhide HK) (fun h => hle h.1)
        go_wp2
        go_quiet (fail)
        go_wp2
        exact ⟨⟨rfl, k + 1, by omega, by go_num, HNO2, below_drewN (unhide HBW) _, hrw, unhide HTW⟩, by simp [intOf]; omega⟩
    · obtain rfl : k = 37 := by omega
      have HSN := hide (sig_no (bs := bs) (unhide HNO))
      go_wp2
      have hB6 := put4_below (W := wr) (Nat.le_refl W.heap.size) (.int .i64 0) (.string ⟨#[]⟩) ((.int .i64 0)) ((.int .i64 0))
      have hr6 := put4_heap hrw (.int .i64 0) (.string ⟨#[]⟩) ((.int .i64 0)) ((.int .i64 0))
      obtain ⟨W6, hW6⟩ : ∃ W6, ((((wr.setCell ⟨W.heap.size, 0, none⟩ (.int .i64 0)).setCell ⟨W.heap.size, 1, none⟩ (.string ⟨#[]⟩)).setCell ⟨W.heap.size, 2, none⟩ ((.int .i64 0))).setCell ⟨W.heap.size, 3, none⟩ ((.int .i64 0))) = W6 := ⟨_, rfl⟩
      rw [hW6] at hB6 hr6 ⊢
      clear hW6
      obtain ⟨e0, e1, e2, e3⟩ := tok_cells hr6
      have hBF : Below W.heap.size W W6 := (unhide HBW).trans hB6
      try rw [Exit.noGoto_ret]
      refine bodyPost_ret (v := .tuple #[.agg #[.int .i64 0, .string ⟨#[]⟩, (.int .i64 0), (.int .i64 0)], .slice (some ⟨hb, ho, none⟩) (m + 1) cap2, .bool false]) ?_ rfl (by show RNV W at' (sigQ g len at' bs) _ W6; rw [unhide HSN]; exact ⟨⟨_, _, _, _, _, rfl⟩, hBF⟩)
      clear d0 d1 d2 d3 d4 d5
      simp [results, Tryd.results32, go_sem, e0, e1, e2, e3]
theorem rnext_any (c : Nat) (a : Option Addr) (len cap : Nat) (g : Nat → Int) (hg : ∀ j, 0 ≤ g j ∧ g j ≤ 255) (at' : Nat) (hv : Value) (bs : List Bool) (W : World) (hS : Sl W c (.slice a len cap) len g) (hc : c < W.heap.size) (hO : HOL W hv bs) (hat : at' < len) (hlen : len ≤ 1099511627776) (hbl : bs.length ≤ 1099511627776) :
    Calls Tryd.prog 32 #[.slice a len cap, .int .i64 (at' : Int), hv] W (RNV W at' (tokP g len at' bs)) := by
  unfold tokP
  by_cases hL : isL (g at') = true
  · rw [if_pos hL]
    exact rnext_word c a len cap g hg at' hv bs W hS hc hO hat hlen hbl hL
  rw [if_neg hL]
  have hL0 : isL (g at') = false := by simpa using hL
  by_cases hD : isD (g at') = true
  · rw [if_pos hD]
    exact rnext_num c a len cap g hg at' hv bs W hS hc hO hat hlen hbl hL0 hD
  rw [if_neg hD]
  have hD0 : isD (g at') = false := by simpa using hD
  by_cases hq : g at' = 34 ∨ g at' = 39
  · rw [if_pos hq]
    rcases hq with hq | hq
    · exact rnext_q34 c a len cap g hg at' hv bs W hS hc hO hat hlen hbl hq
    · exact rnext_q39 c a len cap g hg at' hv bs W hS hc hO hat hlen hbl hq
  rw [if_neg hq]
  by_cases h96 : g at' = 96
  · rw [if_pos h96]
    exact rnext_tpl c a len cap g hg at' hv bs W hS hc hO hat hlen hbl h96
  rw [if_neg h96]
  by_cases h125 : g at' = 125
  · by_cases hlb : lastB bs = true
    · rw [if_pos ⟨h125, hlb⟩]
      exact rnext_hol c a len cap g hg at' hv bs W hS hc hO hat hlen hbl h125 hlb
    · rw [if_neg (fun h => hlb h.2)]
      rcases Nat.eq_zero_or_pos bs.length with hz | hp
      · exact rnext_sg2 c a len cap g hg at' hv bs W hS hc hO hat hlen hbl h125 (List.length_eq_zero_iff.1 hz)
      · exact rnext_sg3 c a len cap g hg at' hv bs W hS hc hO hat hlen hbl h125 hp (by simpa using hlb)
  · rw [if_neg (fun h => h125 h.1)]
    exact rnext_sg1 c a len cap g hg at' hv bs W hS hc hO hat hlen hbl hL0 hD0 (fun e => hq (.inl e)) (fun e => hq (.inr e)) h96 h125
end Go.Proofs.YtpdkeggiokebmaaDoor

/- The reference's tokens. -/
namespace Go.Proofs.YtpdkeggiokebmaaDoor
set_option linter.unusedSimpArgs false
set_option linter.unusedVariables false
open Go.RowKit Go.Shelf

attribute [local go_sem] tokV
/-- Behind blanks and remarks the same tokens stand. -/
theorem sc_ahdF (g : Nat → Int) (len : Nat) : ∀ (f i : Nat) (bs : List Bool), len - i < f → i ≤ len →
    ((ahdF g len f i).2 = false → scI g len i bs = [((0, [], (ahdF g len f i).1, 0), 3)]) ∧
    ((ahdF g len f i).2 = true → scI g len i bs = scI g len (ahdF g len f i).1 bs ∧ i ≤ (ahdF g len f i).1 ∧ (ahdF g len f i).1 ≤ len ∧ ((ahdF g len f i).1 < len → NoGap g len (ahdF g len f i).1))
  | 0, i, bs, h, _ => by omega
  | f + 1, i, bs, h, hi => by
    simp only [ahdF]
    by_cases hl : i < len
    · rw [if_neg (fun h' => h' hl)]
      by_cases hb : blk (g i) = true
      · rw [if_pos hb, sc_blk hl hb]
        obtain ⟨h1, h2⟩ := sc_ahdF g len f (i + 1) bs (by omega) (by omega)
        exact ⟨h1, fun h => by obtain ⟨a, b, c, d⟩ := h2 h; exact ⟨a, by omega, c, d⟩⟩
      rw [if_neg hb]
      by_cases hln : g i = 47 ∧ i + 1 < len ∧ g (i + 1) = 47
      · rw [if_pos hln, sc_line hln.2.1 hln.1 hln.2.2]
        have hp : (g i != 10) = true := by rw [hln.1]; decide
        have s1 := stopI_step (p := fun c => c != 10) (g := g) hl hp
        have s2 := stopI_spec (p := fun c => c != 10) (g := g) (len := len) (i := i + 1) (by omega)
        obtain ⟨h1, h2⟩ := sc_ahdF g len f (stopI (fun c => c != 10) g len i) bs (by omega) (by omega)
        exact ⟨h1, fun h => by obtain ⟨a, b, c, d⟩ := h2 h; exact ⟨a, by omega, c, d⟩⟩
      rw [if_neg hln]
      by_cases hrm : g i = 47 ∧ i + 1 < len ∧ g (i + 1) = 42
      · rw [if_pos hrm, sc_rem hrm.2.1 hrm.1 hrm.2.2]
        have h3 : i + 2 ≤ remI g len (i + 2) := remF_ge (g := g) (len := len) (len - (i + 2)) (i + 2)
        by_cases hr : remI g len (i + 2) + 1 < len
        · rw [if_pos hr, if_pos hr]
          obtain ⟨h1, h2⟩ := sc_ahdF g len f (remI g len (i + 2) + 2) bs (by omega) (by omega)
          exact ⟨h1, fun h => by obtain ⟨a, b, c, d⟩ := h2 h; exact ⟨a, by omega, c, d⟩⟩
        · rw [if_neg hr, if_neg hr]
          exact ⟨fun _ => rfl, fun h => (by cases h)⟩
      rw [if_neg hrm]
      exact ⟨fun h => (by cases h), fun _ => ⟨rfl, Nat.le_refl _, hi, fun _ => ⟨by simpa using hb, hln, hrm⟩⟩⟩
    · rw [if_pos hl]
      exact ⟨fun h => (by cases h), fun _ => ⟨rfl, Nat.le_refl _, hi, fun h => absurd h hl⟩⟩
theorem sc_ahd (g : Nat → Int) (len i : Nat) (bs : List Bool) (hi : i ≤ len) :
    ((ahd g len i).2 = false → scI g len i bs = [((0, [], (ahd g len i).1, 0), 3)]) ∧
    ((ahd g len i).2 = true → scI g len i bs = scI g len (ahd g len i).1 bs ∧ i ≤ (ahd g len i).1 ∧ (ahd g len i).1 ≤ len ∧ ((ahd g len i).1 < len → NoGap g len (ahd g len i).1)) := sc_ahdF g len _ i bs (by omega) hi
theorem HOL.keep {W W' : World} {hv : Value} {bs : List Bool} (h : HOL W hv bs) (hk : ∀ (k : Nat) (o : Obj), W.heap[k]? = some o → (∀ cur, o ≠ .cells cur 33 (0, 0)) → W'.heap[k]? = W.heap[k]?) : HOL W' hv bs := by
  rcases h with h | ⟨b, o, cap, h0, h1, h2, h3, C, fr, h4⟩
  · exact .inl h
  · have hb := hk b _ h4 (fun cur e => by injection e with _ e2; exact absurd e2 (by decide))
    exact .inr ⟨b, o, cap, h0, h1, h2, fun j hj => by rw [World.cell?_of_block (w := W) hb]; exact h3 j hj, C, fr, hb.trans h4⟩
/-- What the reference's tokens gives. -/
def RTokR (g : Nat → Int) (len : Nat) (w : World) (e : Ending) (w' : World) : Prop :=
  ((okI (scI g len 0 []) ∧ ∃ v, e = .returned (.tuple #[v, .int .i64 0, .int .i64 0]) ∧ w'.ownsRow w.heap.size 33 4 v (scI g len 0 []).length (rowD (scI g len 0 []))) ∨
    ∃ (p : List TokD) (i : Nat), scI g len 0 [] = p ++ [((0, [], i, 0), 3)] ∧ okI p ∧ ∃ v, e = .returned (.tuple #[v, .int .i64 (i : Int), .int .i64 3]) ∧ w'.ownsRow w.heap.size 33 4 v p.length (rowD p)) ∧ Below w.heap.size w w'
set_option maxRecDepth 100000 in
set_option maxHeartbeats 4000000 in
theorem rtokens_any (a : Option Addr) (len cap c : Nat) (g : Nat → Int) (hg : ∀ j, 0 ≤ g j ∧ g j ≤ 255) (W : World) (hlen : len ≤ 4000) (hS : Sl W c (.slice a len cap) len g) (hc : c < W.heap.size) :
    Calls Tryd.prog 20 #[.slice a len cap, .int .i64 8192] W (RTokR g len W) := by
  obtain ⟨I, hI⟩ : ∃ I, scI g len 0 [] = I := ⟨_, rfl⟩
  have HI := hide hI
  have HR : Hid (∀ e w', ((okI I ∧ ∃ v, e = .returned (.tuple #[v, .int .i64 0, .int .i64 0]) ∧ w'.ownsRow W.heap.size 33 4 v I.length (rowD I)) ∨ ∃ (p : List TokD) (i : Nat), I = p ++ [((0, [], i, 0), 3)] ∧ okI p ∧ ∃ v, e = .returned (.tuple #[v, .int .i64 (i : Int), .int .i64 3]) ∧ w'.ownsRow W.heap.size 33 4 v p.length (rowD p)) ∧ Below W.heap.size W w' → RTokR g len W e w') := fun e w' h => by
    unfold RTokR
    rw [hI]
    exact h
  clear hI
  have HSA : Hid (∀ W', Below W.heap.size W W' → Sl W' c (.slice a len cap) len g) := fun W' hb => hS.keep (fun k e => by subst e; exact hb.block k hc)
  obtain ⟨i0, hinf, hz0, hzz1, hzz2⟩ := info_parts infoTok
  clear hS
  go_enter Tryd.func20, Tryd.ntmps20
  go_wp2
  go_loopw [7, 8, 9] (fun tl th t wr => ∃ (at' : Nat) (pre : List TokD) (bs : List Bool), at' ≤ len ∧ pre.length ≤ at' ∧ bs.length ≤ at' ∧ t = .int .i64 (at' : Int) ∧ (∃ ta tc, tl = .slice ta pre.length tc) ∧ (∃ hta htc, th = .slice hta bs.length htc) ∧ Hid (okI pre) ∧ Hid (HOL wr th bs) ∧ Hid (wr.ownsRow W.heap.size 33 4 tl pre.length (rowD pre)) ∧ Hid (Below W.heap.size W wr) ∧ Hid (pre ++ scI g len at' bs = I)) (fun _ _ t _ => len - (intOf t).toNat)
  case atStart => exact ⟨0, [], [], Nat.zero_le _, Nat.le_refl _, Nat.le_refl _, rfl, ⟨none, 0, rfl⟩, ⟨none, 0, rfl⟩, (fun t ht => by simp at ht), .inl ⟨rfl, rfl⟩, World.ownsRow_nil _ _ _ _, Below.refl _ _, unhide HI⟩
  case round =>
    obtain ⟨at', pre, bs, hal, hpl, hbl, rfl, ⟨ta, tc, rfl⟩, ⟨hta, htc, rfl⟩, HOK, HHL, HOW, HBW, HIT⟩ := hrel
    clear HI
    have hzw := (unhide HBW).size
    have HAH := hide (rahead_any c a len cap g at' wr (unhide HSA wr (unhide HBW)) hal (by omega))
    obtain ⟨hs1, hs2⟩ := sc_ahd g len at' bs hal
    obtain ⟨j, hj⟩ : ∃ j, (ahd g len at').1 = j := ⟨_, rfl⟩
    rw [hj] at HAH hs1 hs2
    cases hb : (ahd g len at').2 with
    | false =>
      rw [hb] at HAH
      have hit := unhide HIT
      rw [hs1 hb] at hit
      have HIT2 := hide hit
      clear hs1 hs2 hit hj hb
      go_wp2_with (go_at_call 31; refine (unhide HAH).mono ?_; rintro x w' ⟨rfl, hw⟩; subst w')
      try rw [Exit.noGoto_ret]
      refine bodyPost_ret (v := .tuple #[.slice ta pre.length tc, .int .i64 (j : Int), .int .i64 3]) ?_ rfl (unhide HR _ _ ⟨.inr ⟨pre, j, (unhide HIT2).symm, unhide HOK, _, rfl, unhide HOW⟩, unhide HBW⟩)
      simp [results, Tryd.results20, go_sem]
    | true =>
      rw [hb] at HAH
      obtain ⟨hse, hij, hjl, hng⟩ := hs2 hb
      have hit := unhide HIT
      rw [hse] at hit
      clear hs1 hs2 hse hj hb
      by_cases hjn : j < len
      · have hjn' : ¬ (len : Int) ≤ j := by omega
        have hjd : decide ((len : Int) ≤ j) = false := decide_eq_false hjn'
        have hng' := hng hjn
        have HNX := hide (rnext_any c a len cap g hg j (.slice hta bs.length htc) bs wr (unhide HSA wr (unhide HBW)) (by omega) (unhide HHL) hjn (by omega) (by omega))
        cases htk : tokP g len j bs with
        | none =>
          rw [htk] at HNX
          rw [sc_bad hjn hng' htk] at hit
          have HIT2 := hide hit
          have HN : Hid (Calls Tryd.prog 32 #[.slice a len cap, .int .i64 (j : Int), .slice hta bs.length htc] wr fun x W' => (∃ k S y z hv, x = .returned (.tuple #[tokV k S y z, hv, .bool false])) ∧ Below wr.heap.size wr W') := unhide HNX
          clear hit htk HNX hng hng'
          go_wp2_with (first | (go_at_call 31; refine (unhide HAH).mono ?_; rintro x w' ⟨rfl, hw⟩; subst w') | (go_at_call 32; refine (unhide HN).mono ?_; rintro x W2 ⟨⟨k, S, y, z, hv, rfl⟩, hB2⟩))
          have hB3 : Below wr.heap.size wr (W2.alloc (.cells #[.int .i64 k, .string S, .int .i64 y, .int .i64 z] 33)) := hB2.alloc hB2.size _
          try rw [Exit.noGoto_ret]
          refine bodyPost_ret (v := .tuple #[.slice ta pre.length tc, .int .i64 (j : Int), .int .i64 3]) ?_ rfl (unhide HR _ _ ⟨.inr ⟨pre, j, (unhide HIT2).symm, unhide HOK, _, rfl, row_keep (unhide HOW) (fun k hk => hB3.block k (World.ownsRow.lt (unhide HOW) k hk).2)⟩, (unhide HBW).trans (hB3.mono hzw)⟩)
          simp [results, Tryd.results20, go_sem]
        | some q =>
          obtain ⟨kd, tx, e', bs'⟩ := q
          have hadv := tokP_adv hjn htk
          rw [htk] at HNX
          rw [sc_tok hjn hng' htk] at hit
          have HIT2 : Hid ((pre ++ [((kd, tx, j, e'), 0)]) ++ scI g len e' bs' = I) := by
            show _ = _
            rw [List.append_assoc]
            exact hit
          have HN : Hid (Calls Tryd.prog 32 #[.slice a len cap, .int .i64 (j : Int), .slice hta bs.length htc] wr fun x W' => (∃ hv, x = .returned (.tuple #[tokV kd (strOfNums tx) j (e' : Int), hv, .bool true]) ∧ HOL W' hv bs') ∧ Below wr.heap.size wr W') := unhide HNX
          have h8 : ((pre.length : Int) == 8192) = false := beq_eq_false_iff_ne.2 (by omega)
          obtain ⟨S, hSx⟩ : ∃ S, strOfNums tx = S := ⟨_, rfl⟩
          rw [hSx] at HN
          have HSX := hide hSx
          clear hit htk HNX hng hng' hSx
          go_wp2_with (first | (go_at_call 31; refine (unhide HAH).mono ?_; rintro x w' ⟨rfl, hw⟩; subst w') | (go_at_call 32; refine (unhide HN).mono ?_; rintro x W2 ⟨⟨hv, rfl, hH2⟩, hB2⟩; obtain ⟨hva, hvc, rfl⟩ : ∃ hva hvc, hv = .slice hva bs'.length hvc := (by obtain ⟨x, y, h, _⟩ := hH2.opn; exact ⟨x, y, h⟩); have HH2 := hide hH2; clear hH2; have hB2z := hB2.size; obtain ⟨W3, hW3⟩ : ∃ W3, W2.alloc (.cells #[.int .i64 kd, .string S, .int .i64 (j : Int), .int .i64 (e' : Int)] 33) = W3 := ⟨_, rfl⟩; have hB3 : Below W2.heap.size W2 W3 := (by rw [← hW3]; exact (Below.refl _ _).alloc (Nat.le_refl _) _); have ht3 : W3.heap[W2.heap.size]? = some (.cells #[.int .i64 kd, .string S, .int .i64 (j : Int), .int .i64 (e' : Int)] 33) := (by rw [← hW3]; exact World.alloc_heap_new _ _); have hz3 : W2.heap.size < W3.heap.size := (by rw [← hW3]; simp); obtain ⟨t0, t1, t2, t3⟩ := tok_cells ht3; have t4 := Lib.frozen_of_heap ht3; have t5 : W3.shape? W2.heap.size = some (33, 4) := (by simp [World.shape?, ht3]); have HOW3 := hide (row_keep (W' := W3) (unhide HOW) (fun k hk => (hB3.block k (by have := (World.ownsRow.lt (unhide HOW) k hk).2; omega)).trans (hB2.block k (World.ownsRow.lt (unhide HOW) k hk).2)))) | (at_builtin; refine wpList_append_own _ rfl _ _ 24 rfl W.heap.size 33 i0 _ 4 40 Tryd.underlying24 hinf hz0 hzz1 hzz2 rfl (by decide) _ _ _ rfl (World.ownsRow.alloc (unhide HOW3) _) ⟨W3.heap.size, 0, none⟩ 1 1 [.int .i64 kd, .string S, .int .i64 (j : Int), .int .i64 (e' : Int)] rfl rfl ?c1 ?c2 ?c3 ?c4 ?c5 ?_))
          case c1 => exact World.news_of_block (World.alloc_heap_new W3 _)
          case c2 => intro u hu; simp at hu; rcases hu with rfl | rfl | rfl | rfl <;> rfl
          case c3 => unfold maxLen; omega
          case c4 => omega
          case c5 => simp; omega
          intro v' W7 hown7 hg7 _
          have hz7 : W3.heap.size + 1 ≤ W7.heap.size := by have := hg7.size; simp at this; omega
          have hk7 : ∀ (k : Nat) (o : Obj), W3.heap[k]? = some o → (∀ cur, o ≠ .cells cur 33 (0, 0)) → W7.heap[k]? = W3.heap[k]? := fun k o hk hno => by
            have hkl : k < W3.heap.size := (Array.getElem?_eq_some_iff.1 hk).1
            exact (hg7.block k (by simp; omega) (fun e => own_ne (unhide HOW3) hk hno e.symm)).trans (Below.heap_alloc _ _ k hkl)
          have ht7 : W7.heap[W2.heap.size]? = some (.cells #[.int .i64 kd, .string S, .int .i64 (j : Int), .int .i64 (e' : Int)] 33) := by
            rw [hg7.block W2.heap.size (by simp; omega) (fun e => by have := (World.ownsRow.lt (unhide HOW) _ e.symm).2; omega), Below.heap_alloc _ _ _ hz3]
            exact ht3
          have hBf : Below W.heap.size W W7 := ((((unhide HBW).trans (hB2.mono hzw)).trans (hB3.mono (by omega))).alloc (by omega) _).grown hg7 (by simp; omega) (fun k hk => (World.ownsRow.lt (unhide HOW3) k hk).1)
          obtain ⟨g7, c7, rfl⟩ := ownsRow_succ hown7
          obtain ⟨t0, t1, t2, t3⟩ := tok_cells ht7
          have HO7 := hide hown7
          have HH7 := hide (((unhide HH2).below hB3).keep hk7)
          have HB7 := hide hBf
          clear hown7 hg7 hk7 hBf hW3
          go_wp2
          refine ⟨⟨e', pre ++ [((kd, tx, j, e'), 0)], bs', by omega, by simp; omega, by omega, by go_num, ⟨_, _, by rw [List.length_append]; rfl⟩, ⟨_, _, rfl⟩, ?_, unhide HH7, ?_, unhide HB7, unhide HIT2⟩, by simp [intOf]; omega⟩
          · intro t ht
            rcases List.mem_append.1 ht with h | h
            · exact unhide HOK t h
            · simp at h; subst h; rfl
          · show World.ownsRow _ _ _ _ _ _ _
            rw [rowD_snoc, List.length_append, show strOfNums tx = S from unhide HSX]
            exact unhide HO7
      · have hjd : decide ((len : Int) ≤ j) = true := decide_eq_true (by omega)
        have hjn' : (len : Int) ≤ j := by omega
        rw [sc_end hjn] at hit
        have HIT2 := hide hit
        clear hit hng
        go_wp2_with (first | (go_at_call 31; refine (unhide HAH).mono ?_; rintro x w' ⟨rfl, hw⟩; subst w') | (at_builtin; refine wpList_append_own _ rfl _ _ 24 rfl W.heap.size 33 i0 _ 4 40 Tryd.underlying24 hinf hz0 hzz1 hzz2 rfl (by decide) _ _ _ rfl (World.ownsRow.alloc (unhide HOW) _) ⟨wr.heap.size, 0, none⟩ 1 1 [.int .i64 10, .string ⟨#[]⟩, .int .i64 (len : Int), .int .i64 (len : Int)] rfl rfl ?c1 ?c2 ?c3 ?c4 ?c5 ?_))
        case c1 => exact World.news_of_block (World.alloc_heap_new wr _)
        case c2 => intro u hu; simp at hu; rcases hu with rfl | rfl | rfl <;> rfl
        case c3 => unfold maxLen; omega
        case c4 => omega
        case c5 => simp; omega
        intro v' W7 hown7 hg7 _
        have hBf : Below W.heap.size W W7 := ((unhide HBW).alloc (by omega) _).grown hg7 (by simp; omega) (fun k hk => (World.ownsRow.lt (unhide HOW) k hk).1)
        obtain ⟨g7, c7, rfl⟩ := ownsRow_succ hown7
        have HO7 := hide hown7
        clear hown7 hg7
        go_wp2
        try rw [Exit.noGoto_ret]
        refine bodyPost_ret (v := .tuple #[.slice (some ⟨g7, 0, none⟩) (pre.length + 1) c7, .int .i64 0, .int .i64 0]) ?_ rfl (unhide HR _ _ ⟨.inl ⟨?_, _, rfl, ?_⟩, hBf⟩)
        · simp [results, Tryd.results20, go_sem]
        · rw [← unhide HIT2]
          intro t ht
          rcases List.mem_append.1 ht with h | h
          · exact unhide HOK t h
          · simp at h; subst h; rfl
        · rw [← unhide HIT2, rowD_snoc, List.length_append]
          exact unhide HO7
end Go.Proofs.YtpdkeggiokebmaaDoor

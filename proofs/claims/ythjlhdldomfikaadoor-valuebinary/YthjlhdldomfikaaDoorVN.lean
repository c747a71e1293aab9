/- The reference's reckon: exact, times, and each operator of two numbers. -/
import Derived.Test.YthjlhdldomfikaaDoorV9
import Derived.Test.YthjlhdldomfikaaDoorVI
import Derived.Test.YthjlhdldomfikaaDoorVH
namespace Go.Proofs.YthjlhdldomfikaaDoor
set_option linter.unusedSimpArgs false
set_option linter.unusedVariables false
set_option maxRecDepth 100000
set_option maxHeartbeats 4000000
open Go.RowKit Go.Shelf

theorem out_box (W : World) : ∃ W2, W.alloc (.cells #[.int .i64 0, .int .i64 0, .string ⟨#[]⟩, .string ⟨#[]⟩, .int .i64 0] 28) = W2 ∧ Bo W2 W.heap.size 0 0 ⟨#[]⟩ ⟨#[]⟩ 0 ∧ Below W.heap.size W W2 ∧ W2.heap.size = W.heap.size + 1 :=
  ⟨_, rfl, Bx.new W _ _, below_one _ _, by simp⟩
theorem Bo.upp {w w' : World} {b : Nat} {k n f : Int} {t s : ByteArray} (h : Bo w b k n t s f) (hb : Below w.heap.size w w') : Bo w' b k n t s f := Bx.below h hb (Bx.lt h)
theorem exact_no (n : Int) (h : 9007199254740991 < n ∨ n < -9007199254740991) : Ret 69 #[.int .i64 n] (.agg (Oc 0 0 ByteArray.empty ⟨#[]⟩ 2)) := by
  intro W
  rcases h with h | h
  all_goals
    go_enter Tryd.func69, Tryd.ntmps69
    go_wp2
    refine bodyPost_ret (by first | (simp [results, Tryd.results69, go_sem]; done) | (simp [results, Tryd.results69, go_sem]; rfl)) rfl ⟨rfl, below_one _ _⟩
theorem exact_yes (n : Int) (h1 : n ≤ 9007199254740991) (h2 : -9007199254740991 ≤ n) : Ret 69 #[.int .i64 n] (.agg (Oc 3 n ByteArray.empty ⟨#[]⟩ 0)) := by
  intro W
  obtain ⟨W2, hW2, b2, hb, hz⟩ := out_box W
  have B2 := hide b2
  have HB := hide hb
  clear b2 hb hz
  go_enter Tryd.func69, Tryd.ntmps69
  go_wp2_with (go_at_call 29; refine (rNumber_any _ _).mono ?_; rintro e w4 ⟨rfl, hb4⟩; unfold Vc; have X4 := hide ((unhide B2).upp hb4); have HB4 := hide (Below.up (unhide HB) hb4); obtain ⟨d0, d1, d2, d3, d4, g0, g1, g2, g3, g4, lt'⟩ := (unhide X4).all)
  exact ret_o Tryd.results69 rfl (unhide X4) rfl (unhide HB4) (by omega) rfl
theorem rexact_any (n : Int) : Ret 69 #[.int .i64 n] (exR n (decide (absN n ≤ 9007199254740991))).oc := by
  by_cases h : absN n ≤ 9007199254740991
  · rw [show decide (absN n ≤ 9007199254740991) = true from by simpa using h]
    unfold absN at h
    exact exact_yes n (by omega) (by omega)
  · rw [show decide (absN n ≤ 9007199254740991) = false from by simpa using h]
    unfold absN at h
    exact exact_no n (by omega)
theorem rk_add (a b : Int) (h1 : -9007199254740991 ≤ a) (h2 : a ≤ 9007199254740991) (h3 : -9007199254740991 ≤ b) (h4 : b ≤ 9007199254740991) (r : R5) (H : Ret 69 #[.int .i64 (a + b)] r.oc) : Ret 48 #[.string ⟨#[43]⟩, .int .i64 a, .int .i64 b] r.oc := by
  intro W
  obtain ⟨W2, hW2, b2, hb, hz⟩ := out_box W
  have B2 := hide b2
  have HB := hide hb
  have HL : Hid (∀ n w, Calls Tryd.prog 31 #[.int .i64 n] w fun e w' => e = .returned (.int .i64 (n % 4294967296)) ∧ Below w.heap.size w w') := fun n w => low_any n w
  have HS : Hid (∀ n w, Calls Tryd.prog 30 #[.int .i64 n] w fun e w' => e = .returned (.agg #[.int .i64 3, .int .i64 (wrap64 (wrap32 (n % 4294967296))), .string ByteArray.empty]) ∧ Below w.heap.size w w') := fun n w => rsigned_any n _ rfl w
  clear b2 hb hz
  have HC := hide H
  unfold R5.oc Oc at HC
  clear H
  go_enter Tryd.func48, Tryd.ntmps48
  go_wp2_with (first | (go_at_call 31; refine (unhide HL _ _).mono ?_; rintro e w4 ⟨rfl, hb4⟩; have X4 := hide ((unhide B2).upp hb4); have B2 := X4; have HB := hide (Below.up (unhide HB) hb4); clear hb4; obtain ⟨d0, d1, d2, d3, d4, g0, g1, g2, g3, g4, lt'⟩ := (unhide B2).all) | (go_at_call 69; refine (unhide HC _).mono ?_; rintro e w4 ⟨rfl, hb4⟩; have X4 := hide ((unhide B2).upp hb4); have B2 := X4; have HB := hide (Below.up (unhide HB) hb4); clear hb4; obtain ⟨d0, d1, d2, d3, d4, g0, g1, g2, g3, g4, lt'⟩ := (unhide B2).all))
  exact ret_o Tryd.results48 rfl (unhide B2) rfl (unhide HB) (by omega) rfl
theorem rk_sub (a b : Int) (h1 : -9007199254740991 ≤ a) (h2 : a ≤ 9007199254740991) (h3 : -9007199254740991 ≤ b) (h4 : b ≤ 9007199254740991) (r : R5) (H : Ret 69 #[.int .i64 (a - b)] r.oc) : Ret 48 #[.string ⟨#[45]⟩, .int .i64 a, .int .i64 b] r.oc := by
  intro W
  obtain ⟨W2, hW2, b2, hb, hz⟩ := out_box W
  have B2 := hide b2
  have HB := hide hb
  have HL : Hid (∀ n w, Calls Tryd.prog 31 #[.int .i64 n] w fun e w' => e = .returned (.int .i64 (n % 4294967296)) ∧ Below w.heap.size w w') := fun n w => low_any n w
  have HS : Hid (∀ n w, Calls Tryd.prog 30 #[.int .i64 n] w fun e w' => e = .returned (.agg #[.int .i64 3, .int .i64 (wrap64 (wrap32 (n % 4294967296))), .string ByteArray.empty]) ∧ Below w.heap.size w w') := fun n w => rsigned_any n _ rfl w
  clear b2 hb hz
  have HC := hide H
  unfold R5.oc Oc at HC
  clear H
  go_enter Tryd.func48, Tryd.ntmps48
  go_wp2_with (first | (go_at_call 31; refine (unhide HL _ _).mono ?_; rintro e w4 ⟨rfl, hb4⟩; have X4 := hide ((unhide B2).upp hb4); have B2 := X4; have HB := hide (Below.up (unhide HB) hb4); clear hb4; obtain ⟨d0, d1, d2, d3, d4, g0, g1, g2, g3, g4, lt'⟩ := (unhide B2).all) | (go_at_call 69; refine (unhide HC _).mono ?_; rintro e w4 ⟨rfl, hb4⟩; have X4 := hide ((unhide B2).upp hb4); have B2 := X4; have HB := hide (Below.up (unhide HB) hb4); clear hb4; obtain ⟨d0, d1, d2, d3, d4, g0, g1, g2, g3, g4, lt'⟩ := (unhide B2).all))
  exact ret_o Tryd.results48 rfl (unhide B2) rfl (unhide HB) (by omega) rfl
theorem rk_mul (a b : Int) (h1 : -9007199254740991 ≤ a) (h2 : a ≤ 9007199254740991) (h3 : -9007199254740991 ≤ b) (h4 : b ≤ 9007199254740991) (r : R5) (H : Ret 70 #[.int .i64 a, .int .i64 b] r.oc) : Ret 48 #[.string ⟨#[42]⟩, .int .i64 a, .int .i64 b] r.oc := by
  intro W
  obtain ⟨W2, hW2, b2, hb, hz⟩ := out_box W
  have B2 := hide b2
  have HB := hide hb
  have HL : Hid (∀ n w, Calls Tryd.prog 31 #[.int .i64 n] w fun e w' => e = .returned (.int .i64 (n % 4294967296)) ∧ Below w.heap.size w w') := fun n w => low_any n w
  have HS : Hid (∀ n w, Calls Tryd.prog 30 #[.int .i64 n] w fun e w' => e = .returned (.agg #[.int .i64 3, .int .i64 (wrap64 (wrap32 (n % 4294967296))), .string ByteArray.empty]) ∧ Below w.heap.size w w') := fun n w => rsigned_any n _ rfl w
  clear b2 hb hz
  have HC := hide H
  unfold R5.oc Oc at HC
  clear H
  go_enter Tryd.func48, Tryd.ntmps48
  go_wp2_with (first | (go_at_call 31; refine (unhide HL _ _).mono ?_; rintro e w4 ⟨rfl, hb4⟩; have X4 := hide ((unhide B2).upp hb4); have B2 := X4; have HB := hide (Below.up (unhide HB) hb4); clear hb4; obtain ⟨d0, d1, d2, d3, d4, g0, g1, g2, g3, g4, lt'⟩ := (unhide B2).all) | (go_at_call 70; refine (unhide HC _).mono ?_; rintro e w4 ⟨rfl, hb4⟩; have X4 := hide ((unhide B2).upp hb4); have B2 := X4; have HB := hide (Below.up (unhide HB) hb4); clear hb4; obtain ⟨d0, d1, d2, d3, d4, g0, g1, g2, g3, g4, lt'⟩ := (unhide B2).all))
  exact ret_o Tryd.results48 rfl (unhide B2) rfl (unhide HB) (by omega) rfl
theorem rk_rem0 (a : Int) : Ret 48 #[.string ⟨#[37]⟩, .int .i64 a, .int .i64 0] (.agg (Oc 0 0 ByteArray.empty ⟨#[]⟩ 2)) := by
  intro W
  obtain ⟨W2, hW2, b2, hb, hz⟩ := out_box W
  have B2 := hide b2
  have HB := hide hb
  have HL : Hid (∀ n w, Calls Tryd.prog 31 #[.int .i64 n] w fun e w' => e = .returned (.int .i64 (n % 4294967296)) ∧ Below w.heap.size w w') := fun n w => low_any n w
  have HS : Hid (∀ n w, Calls Tryd.prog 30 #[.int .i64 n] w fun e w' => e = .returned (.agg #[.int .i64 3, .int .i64 (wrap64 (wrap32 (n % 4294967296))), .string ByteArray.empty]) ∧ Below w.heap.size w w') := fun n w => rsigned_any n _ rfl w
  clear b2 hb hz
  go_enter Tryd.func48, Tryd.ntmps48
  go_wp2_with (go_at_call 31; refine (unhide HL _ _).mono ?_; rintro e w4 ⟨rfl, hb4⟩; have X4 := hide ((unhide B2).upp hb4); have B2 := X4; have HB := hide (Below.up (unhide HB) hb4); clear hb4; obtain ⟨d0, d1, d2, d3, d4, g0, g1, g2, g3, g4, lt'⟩ := (unhide B2).all)
  exact ret_o Tryd.results48 rfl (unhide B2) rfl (unhide HB) (by omega) rfl
theorem rk_rem (a b : Int) (h1 : -9007199254740991 ≤ a) (h2 : a ≤ 9007199254740991) (h3 : -9007199254740991 ≤ b) (h4 : b ≤ 9007199254740991) (h0 : (b == 0) = false) (hb0 : ¬ b = 0) (r : R5) (H : Ret 69 #[.int .i64 (a.tmod b)] r.oc) : Ret 48 #[.string ⟨#[37]⟩, .int .i64 a, .int .i64 b] r.oc := by
  intro W
  obtain ⟨W2, hW2, b2, hb, hz⟩ := out_box W
  have B2 := hide b2
  have HB := hide hb
  have HL : Hid (∀ n w, Calls Tryd.prog 31 #[.int .i64 n] w fun e w' => e = .returned (.int .i64 (n % 4294967296)) ∧ Below w.heap.size w w') := fun n w => low_any n w
  have HS : Hid (∀ n w, Calls Tryd.prog 30 #[.int .i64 n] w fun e w' => e = .returned (.agg #[.int .i64 3, .int .i64 (wrap64 (wrap32 (n % 4294967296))), .string ByteArray.empty]) ∧ Below w.heap.size w w') := fun n w => rsigned_any n _ rfl w
  clear b2 hb hz
  have HC := hide H
  unfold R5.oc Oc at HC
  clear H
  go_enter Tryd.func48, Tryd.ntmps48
  go_wp2_with (first | (go_at_call 31; refine (unhide HL _ _).mono ?_; rintro e w4 ⟨rfl, hb4⟩; have X4 := hide ((unhide B2).upp hb4); have B2 := X4; have HB := hide (Below.up (unhide HB) hb4); clear hb4; obtain ⟨d0, d1, d2, d3, d4, g0, g1, g2, g3, g4, lt'⟩ := (unhide B2).all) | (go_at_call 69; refine (unhide HC _).mono ?_; rintro e w4 ⟨rfl, hb4⟩; have X4 := hide ((unhide B2).upp hb4); have B2 := X4; have HB := hide (Below.up (unhide HB) hb4); clear hb4; obtain ⟨d0, d1, d2, d3, d4, g0, g1, g2, g3, g4, lt'⟩ := (unhide B2).all))
  exact ret_o Tryd.results48 rfl (unhide B2) rfl (unhide HB) (by omega) rfl
theorem rk_and (a b : Int) : Ret 48 #[.string ⟨#[38]⟩, .int .i64 a, .int .i64 b] (.agg (Oc 3 (wrap64 (wrap32 (bits BinOp.and IntKind.i64 (a % 4294967296) (b % 4294967296) % 4294967296))) ByteArray.empty ⟨#[]⟩ 0)) := by
  intro W
  obtain ⟨W2, hW2, b2, hb, hz⟩ := out_box W
  have B2 := hide b2
  have HB := hide hb
  have HL : Hid (∀ n w, Calls Tryd.prog 31 #[.int .i64 n] w fun e w' => e = .returned (.int .i64 (n % 4294967296)) ∧ Below w.heap.size w w') := fun n w => low_any n w
  have HS : Hid (∀ n w, Calls Tryd.prog 30 #[.int .i64 n] w fun e w' => e = .returned (.agg #[.int .i64 3, .int .i64 (wrap64 (wrap32 (n % 4294967296))), .string ByteArray.empty]) ∧ Below w.heap.size w w') := fun n w => rsigned_any n _ rfl w
  clear b2 hb hz
  go_enter Tryd.func48, Tryd.ntmps48
  go_wp2_with (first | (go_at_call 31; refine (unhide HL _ _).mono ?_; rintro e w4 ⟨rfl, hb4⟩; have X4 := hide ((unhide B2).upp hb4); have B2 := X4; have HB := hide (Below.up (unhide HB) hb4); clear hb4; obtain ⟨d0, d1, d2, d3, d4, g0, g1, g2, g3, g4, lt'⟩ := (unhide B2).all) | (go_at_call 30; refine (unhide HS _ _).mono ?_; rintro e w4 ⟨rfl, hb4⟩; have X4 := hide ((unhide B2).upp hb4); have B2 := X4; have HB := hide (Below.up (unhide HB) hb4); clear hb4; obtain ⟨d0, d1, d2, d3, d4, g0, g1, g2, g3, g4, lt'⟩ := (unhide B2).all))
  exact ret_o Tryd.results48 rfl (unhide B2) rfl (unhide HB) (by omega) rfl
theorem rk_or (a b : Int) : Ret 48 #[.string ⟨#[124]⟩, .int .i64 a, .int .i64 b] (.agg (Oc 3 (wrap64 (wrap32 (bits BinOp.or IntKind.i64 (a % 4294967296) (b % 4294967296) % 4294967296))) ByteArray.empty ⟨#[]⟩ 0)) := by
  intro W
  obtain ⟨W2, hW2, b2, hb, hz⟩ := out_box W
  have B2 := hide b2
  have HB := hide hb
  have HL : Hid (∀ n w, Calls Tryd.prog 31 #[.int .i64 n] w fun e w' => e = .returned (.int .i64 (n % 4294967296)) ∧ Below w.heap.size w w') := fun n w => low_any n w
  have HS : Hid (∀ n w, Calls Tryd.prog 30 #[.int .i64 n] w fun e w' => e = .returned (.agg #[.int .i64 3, .int .i64 (wrap64 (wrap32 (n % 4294967296))), .string ByteArray.empty]) ∧ Below w.heap.size w w') := fun n w => rsigned_any n _ rfl w
  clear b2 hb hz
  go_enter Tryd.func48, Tryd.ntmps48
  go_wp2_with (first | (go_at_call 31; refine (unhide HL _ _).mono ?_; rintro e w4 ⟨rfl, hb4⟩; have X4 := hide ((unhide B2).upp hb4); have B2 := X4; have HB := hide (Below.up (unhide HB) hb4); clear hb4; obtain ⟨d0, d1, d2, d3, d4, g0, g1, g2, g3, g4, lt'⟩ := (unhide B2).all) | (go_at_call 30; refine (unhide HS _ _).mono ?_; rintro e w4 ⟨rfl, hb4⟩; have X4 := hide ((unhide B2).upp hb4); have B2 := X4; have HB := hide (Below.up (unhide HB) hb4); clear hb4; obtain ⟨d0, d1, d2, d3, d4, g0, g1, g2, g3, g4, lt'⟩ := (unhide B2).all))
  exact ret_o Tryd.results48 rfl (unhide B2) rfl (unhide HB) (by omega) rfl
theorem rk_xor (a b : Int) : Ret 48 #[.string ⟨#[94]⟩, .int .i64 a, .int .i64 b] (.agg (Oc 3 (wrap64 (wrap32 (bits BinOp.xor IntKind.i64 (a % 4294967296) (b % 4294967296) % 4294967296))) ByteArray.empty ⟨#[]⟩ 0)) := by
  intro W
  obtain ⟨W2, hW2, b2, hb, hz⟩ := out_box W
  have B2 := hide b2
  have HB := hide hb
  have HL : Hid (∀ n w, Calls Tryd.prog 31 #[.int .i64 n] w fun e w' => e = .returned (.int .i64 (n % 4294967296)) ∧ Below w.heap.size w w') := fun n w => low_any n w
  have HS : Hid (∀ n w, Calls Tryd.prog 30 #[.int .i64 n] w fun e w' => e = .returned (.agg #[.int .i64 3, .int .i64 (wrap64 (wrap32 (n % 4294967296))), .string ByteArray.empty]) ∧ Below w.heap.size w w') := fun n w => rsigned_any n _ rfl w
  clear b2 hb hz
  go_enter Tryd.func48, Tryd.ntmps48
  go_wp2_with (first | (go_at_call 31; refine (unhide HL _ _).mono ?_; rintro e w4 ⟨rfl, hb4⟩; have X4 := hide ((unhide B2).upp hb4); have B2 := X4; have HB := hide (Below.up (unhide HB) hb4); clear hb4; obtain ⟨d0, d1, d2, d3, d4, g0, g1, g2, g3, g4, lt'⟩ := (unhide B2).all) | (go_at_call 30; refine (unhide HS _ _).mono ?_; rintro e w4 ⟨rfl, hb4⟩; have X4 := hide ((unhide B2).upp hb4); have B2 := X4; have HB := hide (Below.up (unhide HB) hb4); clear hb4; obtain ⟨d0, d1, d2, d3, d4, g0, g1, g2, g3, g4, lt'⟩ := (unhide B2).all))
  exact ret_o Tryd.results48 rfl (unhide B2) rfl (unhide HB) (by omega) rfl
end Go.Proofs.YthjlhdldomfikaaDoor

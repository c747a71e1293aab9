/- The reference's reckon: shifts; times; ordered. -/
import Derived.Test.YthjlhdldomfikaaDoorVN
namespace Go.Proofs.YthjlhdldomfikaaDoor
set_option linter.unusedSimpArgs false
set_option linter.unusedVariables false
set_option maxRecDepth 100000
set_option maxHeartbeats 4000000
open Go.RowKit Go.Shelf

theorem rk_shl (a b : Int) : Ret 48 #[.string ⟨#[60, 60]⟩, .int .i64 a, .int .i64 b] (.agg (Oc 3 (wrap64 (wrap32 (wrap64 (a % 4294967296 * 2 ^ (b % 32).toNat) % 4294967296))) ByteArray.empty ⟨#[]⟩ 0)) := by
  intro W
  obtain ⟨W2, hW2, b2, hb, hz⟩ := out_box W
  have B2 := hide b2
  have HB := hide hb
  have HL : Hid (∀ n w, Calls Tryd.prog 31 #[.int .i64 n] w fun e w' => e = .returned (.int .i64 (n % 4294967296)) ∧ Below w.heap.size w w') := fun n w => low_any n w
  have HS : Hid (∀ n w, Calls Tryd.prog 30 #[.int .i64 n] w fun e w' => e = .returned (.agg #[.int .i64 3, .int .i64 (wrap64 (wrap32 (n % 4294967296))), .string ByteArray.empty]) ∧ Below w.heap.size w w') := fun n w => rsigned_any n _ rfl w
  clear b2 hb hz
  go_enter Tryd.func48, Tryd.ntmps48
  go_wp2_with (first | (go_at_call 31; refine (unhide HL _ _).mono ?_; rintro e w4 ⟨rfl, hb4⟩; have X4 := hide ((unhide B2).upp hb4); have B2 := X4; have HB := hide (Below.up (unhide HB) hb4); clear hb4; obtain ⟨d0, d1, d2, d3, d4, g0, g1, g2, g3, g4, lt'⟩ := (unhide B2).all) | (go_at_call 30; refine (unhide HS _ _).mono ?_; rintro e w4 ⟨rfl, hb4⟩; have X4 := hide ((unhide B2).upp hb4); have B2 := X4; have HB := hide (Below.up (unhide HB) hb4); clear hb4; obtain ⟨d0, d1, d2, d3, d4, g0, g1, g2, g3, g4, lt'⟩ := (unhide B2).all) | (go_at_call 29; refine (rNumber_any _ _).mono ?_; rintro e w4 ⟨rfl, hb4⟩; unfold Vc; have X4 := hide ((unhide B2).upp hb4); have B2 := X4; have HB := hide (Below.up (unhide HB) hb4); obtain ⟨d0, d1, d2, d3, d4, g0, g1, g2, g3, g4, lt'⟩ := (unhide B2).all))
  exact ret_o Tryd.results48 rfl (unhide B2) rfl (unhide HB) (by omega) rfl
theorem rk_shr (a b : Int) : Ret 48 #[.string ⟨#[62, 62]⟩, .int .i64 a, .int .i64 b] (.agg (Oc 3 (wrap64 (wrap32 (a % 4294967296) / 2 ^ (b % 32).toNat)) ByteArray.empty ⟨#[]⟩ 0)) := by
  intro W
  obtain ⟨W2, hW2, b2, hb, hz⟩ := out_box W
  have B2 := hide b2
  have HB := hide hb
  have HL : Hid (∀ n w, Calls Tryd.prog 31 #[.int .i64 n] w fun e w' => e = .returned (.int .i64 (n % 4294967296)) ∧ Below w.heap.size w w') := fun n w => low_any n w
  have HS : Hid (∀ n w, Calls Tryd.prog 30 #[.int .i64 n] w fun e w' => e = .returned (.agg #[.int .i64 3, .int .i64 (wrap64 (wrap32 (n % 4294967296))), .string ByteArray.empty]) ∧ Below w.heap.size w w') := fun n w => rsigned_any n _ rfl w
  clear b2 hb hz
  go_enter Tryd.func48, Tryd.ntmps48
  go_wp2_with (first | (go_at_call 31; refine (unhide HL _ _).mono ?_; rintro e w4 ⟨rfl, hb4⟩; have X4 := hide ((unhide B2).upp hb4); have B2 := X4; have HB := hide (Below.up (unhide HB) hb4); clear hb4; obtain ⟨d0, d1, d2, d3, d4, g0, g1, g2, g3, g4, lt'⟩ := (unhide B2).all) | (go_at_call 30; refine (unhide HS _ _).mono ?_; rintro e w4 ⟨rfl, hb4⟩; have X4 := hide ((unhide B2).upp hb4); have B2 := X4; have HB := hide (Below.up (unhide HB) hb4); clear hb4; obtain ⟨d0, d1, d2, d3, d4, g0, g1, g2, g3, g4, lt'⟩ := (unhide B2).all) | (go_at_call 29; refine (rNumber_any _ _).mono ?_; rintro e w4 ⟨rfl, hb4⟩; unfold Vc; have X4 := hide ((unhide B2).upp hb4); have B2 := X4; have HB := hide (Below.up (unhide HB) hb4); obtain ⟨d0, d1, d2, d3, d4, g0, g1, g2, g3, g4, lt'⟩ := (unhide B2).all))
  exact ret_o Tryd.results48 rfl (unhide B2) rfl (unhide HB) (by omega) rfl
theorem rk_shn (a b : Int) : Ret 48 #[.string ⟨#[62, 62, 62]⟩, .int .i64 a, .int .i64 b] (.agg (Oc 3 (a % 4294967296 / 2 ^ (b % 32).toNat) ByteArray.empty ⟨#[]⟩ 0)) := by
  intro W
  obtain ⟨W2, hW2, b2, hb, hz⟩ := out_box W
  have B2 := hide b2
  have HB := hide hb
  have HL : Hid (∀ n w, Calls Tryd.prog 31 #[.int .i64 n] w fun e w' => e = .returned (.int .i64 (n % 4294967296)) ∧ Below w.heap.size w w') := fun n w => low_any n w
  have HS : Hid (∀ n w, Calls Tryd.prog 30 #[.int .i64 n] w fun e w' => e = .returned (.agg #[.int .i64 3, .int .i64 (wrap64 (wrap32 (n % 4294967296))), .string ByteArray.empty]) ∧ Below w.heap.size w w') := fun n w => rsigned_any n _ rfl w
  clear b2 hb hz
  go_enter Tryd.func48, Tryd.ntmps48
  go_wp2_with (first | (go_at_call 31; refine (unhide HL _ _).mono ?_; rintro e w4 ⟨rfl, hb4⟩; have X4 := hide ((unhide B2).upp hb4); have B2 := X4; have HB := hide (Below.up (unhide HB) hb4); clear hb4; obtain ⟨d0, d1, d2, d3, d4, g0, g1, g2, g3, g4, lt'⟩ := (unhide B2).all) | (go_at_call 30; refine (unhide HS _ _).mono ?_; rintro e w4 ⟨rfl, hb4⟩; have X4 := hide ((unhide B2).upp hb4); have B2 := X4; have HB := hide (Below.up (unhide HB) hb4); clear hb4; obtain ⟨d0, d1, d2, d3, d4, g0, g1, g2, g3, g4, lt'⟩ := (unhide B2).all) | (go_at_call 29; refine (rNumber_any _ _).mono ?_; rintro e w4 ⟨rfl, hb4⟩; unfold Vc; have X4 := hide ((unhide B2).upp hb4); have B2 := X4; have HB := hide (Below.up (unhide HB) hb4); obtain ⟨d0, d1, d2, d3, d4, g0, g1, g2, g3, g4, lt'⟩ := (unhide B2).all))
  exact ret_o Tryd.results48 rfl (unhide B2) rfl (unhide HB) (by omega) rfl
theorem times_nn_no (a b Q : Int) (ha : a < 0) (hb0 : b < 0) (h1 : -9007199254740991 ≤ a) (h2 : a ≤ 9007199254740991) (h3 : -9007199254740991 ≤ b) (h4 : b ≤ 9007199254740991) (hQ : wrap64 (-Int.tdiv 9007199254740991 a) = Q) (hlt : Q < -b) : Ret 70 #[.int .i64 a, .int .i64 b] (.agg (Oc 0 0 ByteArray.empty ⟨#[]⟩ 2)) := by
  intro W
  obtain ⟨W2, hW2, b2, hb, hz⟩ := out_box W
  have B2 := hide b2
  have HB := hide hb
  have HL : Hid (∀ n w, Calls Tryd.prog 31 #[.int .i64 n] w fun e w' => e = .returned (.int .i64 (n % 4294967296)) ∧ Below w.heap.size w w') := fun n w => low_any n w
  have HS : Hid (∀ n w, Calls Tryd.prog 30 #[.int .i64 n] w fun e w' => e = .returned (.agg #[.int .i64 3, .int .i64 (wrap64 (wrap32 (n % 4294967296))), .string ByteArray.empty]) ∧ Below w.heap.size w w') := fun n w => rsigned_any n _ rfl w
  obtain ⟨d0, d1, d2, d3, d4, g0, g1, g2, g3, g4, lt'⟩ := b2.all
  clear b2 hb hz
  go_enter Tryd.func70, Tryd.ntmps70
  go_wp2
  exact ret_o Tryd.results70 rfl (unhide B2) rfl (unhide HB) (by omega) rfl
theorem times_nn_yes (a b Q : Int) (ha : a < 0) (hb0 : b < 0) (h1 : -9007199254740991 ≤ a) (h2 : a ≤ 9007199254740991) (h3 : -9007199254740991 ≤ b) (h4 : b ≤ 9007199254740991) (hQ : wrap64 (-Int.tdiv 9007199254740991 a) = Q) (hlt : -b ≤ Q) : Ret 70 #[.int .i64 a, .int .i64 b] (.agg (Oc 3 (wrap64 (a * b)) ByteArray.empty ⟨#[]⟩ 0)) := by
  intro W
  obtain ⟨W2, hW2, b2, hb, hz⟩ := out_box W
  have B2 := hide b2
  have HB := hide hb
  have HL : Hid (∀ n w, Calls Tryd.prog 31 #[.int .i64 n] w fun e w' => e = .returned (.int .i64 (n % 4294967296)) ∧ Below w.heap.size w w') := fun n w => low_any n w
  have HS : Hid (∀ n w, Calls Tryd.prog 30 #[.int .i64 n] w fun e w' => e = .returned (.agg #[.int .i64 3, .int .i64 (wrap64 (wrap32 (n % 4294967296))), .string ByteArray.empty]) ∧ Below w.heap.size w w') := fun n w => rsigned_any n _ rfl w
  clear b2 hb hz
  go_enter Tryd.func70, Tryd.ntmps70
  go_wp2_with (go_at_call 29; refine (rNumber_any _ _).mono ?_; rintro e w4 ⟨rfl, hb4⟩; unfold Vc; have X4 := hide ((unhide B2).upp hb4); have B2 := X4; have HB := hide (Below.up (unhide HB) hb4); obtain ⟨d0, d1, d2, d3, d4, g0, g1, g2, g3, g4, lt'⟩ := (unhide B2).all)
  exact ret_o Tryd.results70 rfl (unhide B2) rfl (unhide HB) (by omega) rfl
theorem times_np_no (a b Q : Int) (ha : a < 0) (hb0 : 0 ≤ b) (h1 : -9007199254740991 ≤ a) (h2 : a ≤ 9007199254740991) (h3 : -9007199254740991 ≤ b) (h4 : b ≤ 9007199254740991) (hQ : wrap64 (-Int.tdiv 9007199254740991 a) = Q) (hlt : Q < b) : Ret 70 #[.int .i64 a, .int .i64 b] (.agg (Oc 0 0 ByteArray.empty ⟨#[]⟩ 2)) := by
  intro W
  obtain ⟨W2, hW2, b2, hb, hz⟩ := out_box W
  have B2 := hide b2
  have HB := hide hb
  have HL : Hid (∀ n w, Calls Tryd.prog 31 #[.int .i64 n] w fun e w' => e = .returned (.int .i64 (n % 4294967296)) ∧ Below w.heap.size w w') := fun n w => low_any n w
  have HS : Hid (∀ n w, Calls Tryd.prog 30 #[.int .i64 n] w fun e w' => e = .returned (.agg #[.int .i64 3, .int .i64 (wrap64 (wrap32 (n % 4294967296))), .string ByteArray.empty]) ∧ Below w.heap.size w w') := fun n w => rsigned_any n _ rfl w
  obtain ⟨d0, d1, d2, d3, d4, g0, g1, g2, g3, g4, lt'⟩ := b2.all
  clear b2 hb hz
  go_enter Tryd.func70, Tryd.ntmps70
  go_wp2
  exact ret_o Tryd.results70 rfl (unhide B2) rfl (unhide HB) (by omega) rfl
theorem times_np_yes (a b Q : Int) (ha : a < 0) (hb0 : 0 ≤ b) (h1 : -9007199254740991 ≤ a) (h2 : a ≤ 9007199254740991) (h3 : -9007199254740991 ≤ b) (h4 : b ≤ 9007199254740991) (hQ : wrap64 (-Int.tdiv 9007199254740991 a) = Q) (hlt : b ≤ Q) : Ret 70 #[.int .i64 a, .int .i64 b] (.agg (Oc 3 (wrap64 (a * b)) ByteArray.empty ⟨#[]⟩ 0)) := by
  intro W
  obtain ⟨W2, hW2, b2, hb, hz⟩ := out_box W
  have B2 := hide b2
  have HB := hide hb
  have HL : Hid (∀ n w, Calls Tryd.prog 31 #[.int .i64 n] w fun e w' => e = .returned (.int .i64 (n % 4294967296)) ∧ Below w.heap.size w w') := fun n w => low_any n w
  have HS : Hid (∀ n w, Calls Tryd.prog 30 #[.int .i64 n] w fun e w' => e = .returned (.agg #[.int .i64 3, .int .i64 (wrap64 (wrap32 (n % 4294967296))), .string ByteArray.empty]) ∧ Below w.heap.size w w') := fun n w => rsigned_any n _ rfl w
  clear b2 hb hz
  go_enter Tryd.func70, Tryd.ntmps70
  go_wp2_with (go_at_call 29; refine (rNumber_any _ _).mono ?_; rintro e w4 ⟨rfl, hb4⟩; unfold Vc; have X4 := hide ((unhide B2).upp hb4); have B2 := X4; have HB := hide (Below.up (unhide HB) hb4); obtain ⟨d0, d1, d2, d3, d4, g0, g1, g2, g3, g4, lt'⟩ := (unhide B2).all)
  exact ret_o Tryd.results70 rfl (unhide B2) rfl (unhide HB) (by omega) rfl
theorem times_pn_no (a b Q : Int) (ha : 0 < a) (hb0 : b < 0) (h1 : -9007199254740991 ≤ a) (h2 : a ≤ 9007199254740991) (h3 : -9007199254740991 ≤ b) (h4 : b ≤ 9007199254740991) (hQ : 9007199254740991 / a = Q) (hlt : Q < -b) : Ret 70 #[.int .i64 a, .int .i64 b] (.agg (Oc 0 0 ByteArray.empty ⟨#[]⟩ 2)) := by
  intro W
  obtain ⟨W2, hW2, b2, hb, hz⟩ := out_box W
  have B2 := hide b2
  have HB := hide hb
  have HL : Hid (∀ n w, Calls Tryd.prog 31 #[.int .i64 n] w fun e w' => e = .returned (.int .i64 (n % 4294967296)) ∧ Below w.heap.size w w') := fun n w => low_any n w
  have HS : Hid (∀ n w, Calls Tryd.prog 30 #[.int .i64 n] w fun e w' => e = .returned (.agg #[.int .i64 3, .int .i64 (wrap64 (wrap32 (n % 4294967296))), .string ByteArray.empty]) ∧ Below w.heap.size w w') := fun n w => rsigned_any n _ rfl w
  obtain ⟨d0, d1, d2, d3, d4, g0, g1, g2, g3, g4, lt'⟩ := b2.all
  clear b2 hb hz
  go_enter Tryd.func70, Tryd.ntmps70
  go_wp2
  exact ret_o Tryd.results70 rfl (unhide B2) rfl (unhide HB) (by omega) rfl
theorem times_pn_yes (a b Q : Int) (ha : 0 < a) (hb0 : b < 0) (h1 : -9007199254740991 ≤ a) (h2 : a ≤ 9007199254740991) (h3 : -9007199254740991 ≤ b) (h4 : b ≤ 9007199254740991) (hQ : 9007199254740991 / a = Q) (hlt : -b ≤ Q) : Ret 70 #[.int .i64 a, .int .i64 b] (.agg (Oc 3 (wrap64 (a * b)) ByteArray.empty ⟨#[]⟩ 0)) := by
  intro W
  obtain ⟨W2, hW2, b2, hb, hz⟩ := out_box W
  have B2 := hide b2
  have HB := hide hb
  have HL : Hid (∀ n w, Calls Tryd.prog 31 #[.int .i64 n] w fun e w' => e = .returned (.int .i64 (n % 4294967296)) ∧ Below w.heap.size w w') := fun n w => low_any n w
  have HS : Hid (∀ n w, Calls Tryd.prog 30 #[.int .i64 n] w fun e w' => e = .returned (.agg #[.int .i64 3, .int .i64 (wrap64 (wrap32 (n % 4294967296))), .string ByteArray.empty]) ∧ Below w.heap.size w w') := fun n w => rsigned_any n _ rfl w
  clear b2 hb hz
  go_enter Tryd.func70, Tryd.ntmps70
  go_wp2_with (go_at_call 29; refine (rNumber_any _ _).mono ?_; rintro e w4 ⟨rfl, hb4⟩; unfold Vc; have X4 := hide ((unhide B2).upp hb4); have B2 := X4; have HB := hide (Below.up (unhide HB) hb4); obtain ⟨d0, d1, d2, d3, d4, g0, g1, g2, g3, g4, lt'⟩ := (unhide B2).all)
  exact ret_o Tryd.results70 rfl (unhide B2) rfl (unhide HB) (by omega) rfl
theorem times_pp_no (a b Q : Int) (ha : 0 < a) (hb0 : 0 ≤ b) (h1 : -9007199254740991 ≤ a) (h2 : a ≤ 9007199254740991) (h3 : -9007199254740991 ≤ b) (h4 : b ≤ 9007199254740991) (hQ : 9007199254740991 / a = Q) (hlt : Q < b) : Ret 70 #[.int .i64 a, .int .i64 b] (.agg (Oc 0 0 ByteArray.empty ⟨#[]⟩ 2)) := by
  intro W
  obtain ⟨W2, hW2, b2, hb, hz⟩ := out_box W
  have B2 := hide b2
  have HB := hide hb
  have HL : Hid (∀ n w, Calls Tryd.prog 31 #[.int .i64 n] w fun e w' => e = .returned (.int .i64 (n % 4294967296)) ∧ Below w.heap.size w w') := fun n w => low_any n w
  have HS : Hid (∀ n w, Calls Tryd.prog 30 #[.int .i64 n] w fun e w' => e = .returned (.agg #[.int .i64 3, .int .i64 (wrap64 (wrap32 (n % 4294967296))), .string ByteArray.empty]) ∧ Below w.heap.size w w') := fun n w => rsigned_any n _ rfl w
  obtain ⟨d0, d1, d2, d3, d4, g0, g1, g2, g3, g4, lt'⟩ := b2.all
  clear b2 hb hz
  go_enter Tryd.func70, Tryd.ntmps70
  go_wp2
  exact ret_o Tryd.results70 rfl (unhide B2) rfl (unhide HB) (by omega) rfl
theorem times_pp_yes (a b Q : Int) (ha : 0 < a) (hb0 : 0 ≤ b) (h1 : -9007199254740991 ≤ a) (h2 : a ≤ 9007199254740991) (h3 : -9007199254740991 ≤ b) (h4 : b ≤ 9007199254740991) (hQ : 9007199254740991 / a = Q) (hlt : b ≤ Q) : Ret 70 #[.int .i64 a, .int .i64 b] (.agg (Oc 3 (wrap64 (a * b)) ByteArray.empty ⟨#[]⟩ 0)) := by
  intro W
  obtain ⟨W2, hW2, b2, hb, hz⟩ := out_box W
  have B2 := hide b2
  have HB := hide hb
  have HL : Hid (∀ n w, Calls Tryd.prog 31 #[.int .i64 n] w fun e w' => e = .returned (.int .i64 (n % 4294967296)) ∧ Below w.heap.size w w') := fun n w => low_any n w
  have HS : Hid (∀ n w, Calls Tryd.prog 30 #[.int .i64 n] w fun e w' => e = .returned (.agg #[.int .i64 3, .int .i64 (wrap64 (wrap32 (n % 4294967296))), .string ByteArray.empty]) ∧ Below w.heap.size w w') := fun n w => rsigned_any n _ rfl w
  clear b2 hb hz
  go_enter Tryd.func70, Tryd.ntmps70
  go_wp2_with (go_at_call 29; refine (rNumber_any _ _).mono ?_; rintro e w4 ⟨rfl, hb4⟩; unfold Vc; have X4 := hide ((unhide B2).upp hb4); have B2 := X4; have HB := hide (Below.up (unhide HB) hb4); obtain ⟨d0, d1, d2, d3, d4, g0, g1, g2, g3, g4, lt'⟩ := (unhide B2).all)
  exact ret_o Tryd.results70 rfl (unhide B2) rfl (unhide HB) (by omega) rfl
theorem times_zero (b : Int) (h3 : -9007199254740991 ≤ b) (h4 : b ≤ 9007199254740991) : Ret 70 #[.int .i64 0, .int .i64 b] (.agg (Oc 3 0 ByteArray.empty ⟨#[]⟩ 0)) := by
  by_cases hb0 : b < 0
  all_goals
    intro W
    obtain ⟨W2, hW2, b2, hb, hz⟩ := out_box W
    have B2 := hide b2
    have HB := hide hb
    have HL : Hid (∀ n w, Calls Tryd.prog 31 #[.int .i64 n] w fun e w' => e = .returned (.int .i64 (n % 4294967296)) ∧ Below w.heap.size w w') := fun n w => low_any n w
    have HS : Hid (∀ n w, Calls Tryd.prog 30 #[.int .i64 n] w fun e w' => e = .returned (.agg #[.int .i64 3, .int .i64 (wrap64 (wrap32 (n % 4294967296))), .string ByteArray.empty]) ∧ Below w.heap.size w w') := fun n w => rsigned_any n _ rfl w
    clear b2 hb hz
    go_enter Tryd.func70, Tryd.ntmps70
    go_wp2_with (go_at_call 29; refine (rNumber_any _ _).mono ?_; rintro e w4 ⟨rfl, hb4⟩; unfold Vc; have X4 := hide ((unhide B2).upp hb4); have B2 := X4; have HB := hide (Below.up (unhide HB) hb4); obtain ⟨d0, d1, d2, d3, d4, g0, g1, g2, g3, g4, lt'⟩ := (unhide B2).all)
    exact ret_o Tryd.results70 rfl (unhide B2) rfl (unhide HB) (by omega) rfl
theorem ord_lt (o : Int) : Ret 50 #[.string ⟨#[60]⟩, .int .i64 o] (.bool (decide (o < 0))) := by
  intro W
  go_enter Tryd.func50, Tryd.ntmps50
  go_wp2
  go_ret
  exact ⟨rfl, Below.refl _ _⟩
theorem ord_le (o : Int) : Ret 50 #[.string ⟨#[60, 61]⟩, .int .i64 o] (.bool (decide (o ≤ 0))) := by
  intro W
  go_enter Tryd.func50, Tryd.ntmps50
  go_wp2
  go_ret
  exact ⟨rfl, Below.refl _ _⟩
theorem ord_gt (o : Int) : Ret 50 #[.string ⟨#[62]⟩, .int .i64 o] (.bool (decide (0 < o))) := by
  intro W
  go_enter Tryd.func50, Tryd.ntmps50
  go_wp2
  go_ret
  exact ⟨rfl, Below.refl _ _⟩
theorem ord_ge (o : Int) : Ret 50 #[.string ⟨#[62, 61]⟩, .int .i64 o] (.bool (decide (0 ≤ o))) := by
  intro W
  go_enter Tryd.func50, Tryd.ntmps50
  go_wp2
  go_ret
  exact ⟨rfl, Below.refl _ _⟩
theorem quo_lt (m X Y : Int) (hX : 0 < X) (hm : 0 ≤ m) : Int.tdiv m X < Y ↔ m < Y * X := by
  rw [Int.tdiv_eq_ediv_of_nonneg hm]
  exact Int.ediv_lt_iff_lt_mul hX
theorem quo_in (X : Int) (hX : 0 < X) : 0 ≤ Int.tdiv 9007199254740991 X ∧ Int.tdiv 9007199254740991 X ≤ 9007199254740991 := by
  rw [Int.tdiv_eq_ediv_of_nonneg (by omega)]
  exact ⟨Int.ediv_nonneg (by omega) (by omega), Int.ediv_le_self _ (by omega)⟩
theorem w64_in (n : Int) (h1 : -9223372036854775808 ≤ n) (h2 : n ≤ 9223372036854775807) : wrap64 n = n := by rw [w64]; omega
theorem times_any (a b : Int) (ha : -9007199254740991 ≤ a ∧ a ≤ 9007199254740991) (hb : -9007199254740991 ≤ b ∧ b ≤ 9007199254740991) : Ret 70 #[.int .i64 a, .int .i64 b] (exR (wrap64 (a * b)) (prodB a b)).oc := by
  obtain ⟨h1, h2⟩ := ha
  obtain ⟨h3, h4⟩ := hb
  by_cases h0 : a = 0
  · subst h0
    have e : prodB 0 b = true := by unfold prodB; simp
    have e2 : wrap64 (0 * b) = 0 := by rw [w64, Int.zero_mul]; rfl
    rw [e, e2]
    exact times_zero b h3 h4
  have hN : ((a * b).natAbs : Int) = (a.natAbs : Int) * (b.natAbs : Int) := by rw [Int.natAbs_mul]; exact Int.natCast_mul _ _
  have hp : prodB a b = decide ((a.natAbs : Int) * (b.natAbs : Int) ≤ 9007199254740991) := by
    unfold prodB
    rw [← hN]
    congr 1
    apply propext
    omega
  have key : ∀ X Y : Int, 0 < X → (a.natAbs : Int) = X → (b.natAbs : Int) = Y → (Int.tdiv 9007199254740991 X < Y → prodB a b = false) ∧ (Y ≤ Int.tdiv 9007199254740991 X → prodB a b = true) := by
    intro X Y hX e1 e2
    have hq := quo_lt 9007199254740991 X Y hX (by omega)
    rw [hp, e1, e2, Int.mul_comm X Y]
    refine ⟨fun h => ?_, fun h => ?_⟩
    · have := hq.1 h
      exact decide_eq_false (by omega)
    · have : ¬ 9007199254740991 < Y * X := fun h' => by have := hq.2 h'; omega
      exact decide_eq_true (by omega)
  by_cases ha0 : a < 0
  · have hq := quo_in (-a) (by omega)
    rw [Int.tdiv_neg] at hq
    have hQ := w64_in (-Int.tdiv 9007199254740991 a) (by omega) (by omega)
    by_cases hb0 : b < 0
    · have k := key (-a) (-b) (by omega) (by omega) (by omega)
      rw [Int.tdiv_neg] at k
      by_cases hlt : -Int.tdiv 9007199254740991 a < -b
      · rw [k.1 hlt]; exact times_nn_no a b _ ha0 hb0 h1 h2 h3 h4 hQ hlt
      · rw [k.2 (by omega)]; exact times_nn_yes a b _ ha0 hb0 h1 h2 h3 h4 hQ (by omega)
    · have k := key (-a) b (by omega) (by omega) (by omega)
      rw [Int.tdiv_neg] at k
      by_cases hlt : -Int.tdiv 9007199254740991 a < b
      · rw [k.1 hlt]; exact times_np_no a b _ ha0 (by omega) h1 h2 h3 h4 hQ hlt
      · rw [k.2 (by omega)]; exact times_np_yes a b _ ha0 (by omega) h1 h2 h3 h4 hQ (by omega)
  · have hq := quo_in a (by omega)
    have hQ : 9007199254740991 / a = Int.tdiv 9007199254740991 a := (Int.tdiv_eq_ediv_of_nonneg (by omega)).symm
    by_cases hb0 : b < 0
    · have k := key a (-b) (by omega) (by omega) (by omega)
      by_cases hlt : Int.tdiv 9007199254740991 a < -b
      · rw [k.1 hlt]; exact times_pn_no a b _ (by omega) hb0 h1 h2 h3 h4 hQ hlt
      · rw [k.2 (by omega)]; exact times_pn_yes a b _ (by omega) hb0 h1 h2 h3 h4 hQ (by omega)
    · have k := key a b (by omega) (by omega) (by omega)
      by_cases hlt : Int.tdiv 9007199254740991 a < b
      · rw [k.1 hlt]; exact times_pp_no a b _ (by omega) (by omega) h1 h2 h3 h4 hQ hlt
      · rw [k.2 (by omega)]; exact times_pp_yes a b _ (by omega) (by omega) h1 h2 h3 h4 hQ (by omega)
end Go.Proofs.YthjlhdldomfikaaDoor

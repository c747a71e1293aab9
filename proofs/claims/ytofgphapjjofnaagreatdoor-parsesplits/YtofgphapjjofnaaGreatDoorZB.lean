/- Towards the law: T2 T3. -/
import Derived.Test.YtofgphapjjofnaaGreatDoorZA
set_option linter.unusedSimpArgs false
set_option linter.unusedVariables false
set_option maxRecDepth 100000
set_option maxHeartbeats 8000000
namespace Go.Proofs.YtofgphapjjofnaaGreatDoor.Tr
section
open Go.RowKit
theorem isStmt_any (k : Int) (W : World) : Calls Tryz.prog 118 #[.int .i64 k] W fun e w' => e = .returned (.bool (isS k)) ∧ w' = W := by
 cases h : isS k with
 | true =>
   have h' : k ∈ stmtK := by simpa [isS] using h
   simp only [stmtK, List.mem_cons, List.not_mem_nil, or_false] at h';clear h;rcases h' with rfl | rfl | rfl | rfl | rfl | rfl | rfl | rfl | rfl | rfl | rfl | rfl | rfl | rfl | rfl | rfl | rfl | rfl | rfl
   all_goals (
    go_enter Tryz.func118, Tryz.ntmps118;go_wp2;go_ret
    exact ⟨rfl, rfl⟩)
 | false =>
   have q0 : (k == 40) = false := by simp only [beq_eq_false_iff_ne, ne_eq]; intro e; subst e; exact absurd h (by decide)
   have q1 : (k == 41) = false := by simp only [beq_eq_false_iff_ne, ne_eq]; intro e; subst e; exact absurd h (by decide)
   have q2 : (k == 42) = false := by simp only [beq_eq_false_iff_ne, ne_eq]; intro e; subst e; exact absurd h (by decide)
   have q3 : (k == 47) = false := by simp only [beq_eq_false_iff_ne, ne_eq]; intro e; subst e; exact absurd h (by decide)
   have q4 : (k == 49) = false := by simp only [beq_eq_false_iff_ne, ne_eq]; intro e; subst e; exact absurd h (by decide)
   have q5 : (k == 51) = false := by simp only [beq_eq_false_iff_ne, ne_eq]; intro e; subst e; exact absurd h (by decide)
   have q6 : (k == 52) = false := by simp only [beq_eq_false_iff_ne, ne_eq]; intro e; subst e; exact absurd h (by decide)
   have q7 : (k == 53) = false := by simp only [beq_eq_false_iff_ne, ne_eq]; intro e; subst e; exact absurd h (by decide)
   have q8 : (k == 54) = false := by simp only [beq_eq_false_iff_ne, ne_eq]; intro e; subst e; exact absurd h (by decide)
   have q9 : (k == 55) = false := by simp only [beq_eq_false_iff_ne, ne_eq]; intro e; subst e; exact absurd h (by decide)
   have q10 : (k == 56) = false := by simp only [beq_eq_false_iff_ne, ne_eq]; intro e; subst e; exact absurd h (by decide)
   have q11 : (k == 57) = false := by simp only [beq_eq_false_iff_ne, ne_eq]; intro e; subst e; exact absurd h (by decide)
   have q12 : (k == 58) = false := by simp only [beq_eq_false_iff_ne, ne_eq]; intro e; subst e; exact absurd h (by decide)
   have q13 : (k == 59) = false := by simp only [beq_eq_false_iff_ne, ne_eq]; intro e; subst e; exact absurd h (by decide)
   have q14 : (k == 60) = false := by simp only [beq_eq_false_iff_ne, ne_eq]; intro e; subst e; exact absurd h (by decide)
   have q15 : (k == 61) = false := by simp only [beq_eq_false_iff_ne, ne_eq]; intro e; subst e; exact absurd h (by decide)
   have q16 : (k == 63) = false := by simp only [beq_eq_false_iff_ne, ne_eq]; intro e; subst e; exact absurd h (by decide)
   have q17 : (k == 64) = false := by simp only [beq_eq_false_iff_ne, ne_eq]; intro e; subst e; exact absurd h (by decide)
   have q18 : (k == 65) = false := by simp only [beq_eq_false_iff_ne, ne_eq]; intro e; subst e; exact absurd h (by decide)
   clear h;go_enter Tryz.func118, Tryz.ntmps118;go_wp2;go_ret;exact ⟨rfl, rfl⟩
theorem isExpr_any (k : Int) (W : World) : Calls Tryz.prog 170 #[.int .i64 k] W fun e w' => e = .returned (.bool (isE k)) ∧ w' = W := by
 by_cases h1 : 10 ≤ k
 · by_cases h2 : k ≤ 34
   · by_cases h3 : k = 21
     · subst h3
       go_enter Tryz.func170, Tryz.ntmps170;go_wp2;go_ret;exact ⟨rfl, rfl⟩
     · have a1 : decide (10 ≤ k) = true := by simpa using h1
       have a2 : decide (k ≤ 34) = true := by simpa using h2
       have a3 : (k == 21) = false := by simpa using h3
       have HR : Hid (isE k = true) := by show isE k = true; simp [isE, a1, a2, a3, h1, h2, h3]
       have H3 := Hi h3;clear h3;go_enter Tryz.func170, Tryz.ntmps170;go_wp2;go_ret;rw [U HR];have h3 := U H3;exact ⟨show Ending.returned (.bool (k != 21)) = _ from ret_b (by simpa using h3), rfl⟩
   · have a2 : decide (k ≤ 34) = false := by simpa using h2
     have HR : Hid (isE k = false) := by show isE k = false; simp [isE]; omega
     go_enter Tryz.func170, Tryz.ntmps170;go_wp2;go_ret;rw [U HR];exact ⟨rfl, rfl⟩
 · have a2 : decide (10 ≤ k) = false := by simpa using h1
   have HR : Hid (isE k = false) := by show isE k = false; simp [isE]; omega
   go_enter Tryz.func170, Tryz.ntmps170;go_wp2;go_ret;rw [U HR];exact ⟨rfl, rfl⟩
theorem isType_any (k : Int) (W : World) : Calls Tryz.prog 122 #[.int .i64 k] W fun e w' => e = .returned (.bool (isT k)) ∧ w' = W := by
 by_cases h1 : 80 ≤ k
 · by_cases h2 : k ≤ 87
   · by_cases h3 : k = 85
     · subst h3
       go_enter Tryz.func122, Tryz.ntmps122;go_wp2;go_ret;exact ⟨rfl, rfl⟩
     · have a1 : decide (80 ≤ k) = true := by simpa using h1
       have a2 : decide (k ≤ 87) = true := by simpa using h2
       have a3 : (k == 85) = false := by simpa using h3
       have HR : Hid (isT k = true) := by show isT k = true; simp [isT, a1, a2, a3, h1, h2, h3]
       have H3 := Hi h3;clear h3;go_enter Tryz.func122, Tryz.ntmps122;go_wp2;go_ret;rw [U HR];have h3 := U H3;exact ⟨show Ending.returned (.bool (k != 85)) = _ from ret_b (by simpa using h3), rfl⟩
   · have a2 : decide (k ≤ 87) = false := by simpa using h2
     have HR : Hid (isT k = false) := by show isT k = false; simp [isT]; omega
     go_enter Tryz.func122, Tryz.ntmps122;go_wp2;go_ret;rw [U HR];exact ⟨rfl, rfl⟩
 · have a2 : decide (80 ≤ k) = false := by simpa using h1
   have HR : Hid (isT k = false) := by show isT k = false; simp [isT]; omega
   go_enter Tryz.func122, Tryz.ntmps122;go_wp2;go_ret;rw [U HR];exact ⟨rfl, rfl⟩
theorem noneOrOptional_ok : IntOk 83 zo := fun W k => by
 by_cases h1 : k = 0
 · subst h1
   go_enter Tryz.func83, Tryz.ntmps83;go_wp2;go_ret;exact ⟨rfl, Below.refl _ _⟩
 · have a1 : (k == 0) = false := by simpa using h1
   have HR : Hid (zo k = (k == 1)) := by show zo k = (k == 1); simp [zo, a1]
   clear h1;go_enter Tryz.func83, Tryz.ntmps83;go_wp2;go_ret;exact ⟨show Ending.returned (.bool (k == 1)) = _ from ret_b (U HR).symm, Below.refl _ _⟩
theorem letOrConst_ok : IntOk 173 zo := fun W k => by
 by_cases h1 : k = 0
 · subst h1
   go_enter Tryz.func173, Tryz.ntmps173;go_wp2;go_ret;exact ⟨rfl, Below.refl _ _⟩
 · have a1 : (k == 0) = false := by simpa using h1
   have HR : Hid (zo k = (k == 1)) := by show zo k = (k == 1); simp [zo, a1]
   clear h1;go_enter Tryz.func173, Tryz.ntmps173;go_wp2;go_ret;exact ⟨show Ending.returned (.bool (k == 1)) = _ from ret_b (U HR).symm, Below.refl _ _⟩
theorem noneOrConst_ok : IntOk 181 zo := fun W k => by
 by_cases h1 : k = 0
 · subst h1
   go_enter Tryz.func181, Tryz.ntmps181;go_wp2;go_ret;exact ⟨rfl, Below.refl _ _⟩
 · have a1 : (k == 0) = false := by simpa using h1
   have HR : Hid (zo k = (k == 1)) := by show zo k = (k == 1); simp [zo, a1]
   clear h1;go_enter Tryz.func181, Tryz.ntmps181;go_wp2;go_ret;exact ⟨show Ending.returned (.bool (k == 1)) = _ from ret_b (U HR).symm, Below.refl _ _⟩
theorem noneOrReadonly_ok : IntOk 178 (fun k => k == 0 || k == 4) := fun W k => by
 by_cases h1 : k = 0
 · subst h1
   go_enter Tryz.func178, Tryz.ntmps178;go_wp2;go_ret;exact ⟨rfl, Below.refl _ _⟩
 · have a1 : (k == 0) = false := by simpa using h1
   have HR : Hid ((k == 0 || k == 4) = (k == 4)) := by show (k == 0 || k == 4) = (k == 4); simp [zo, a1]
   clear h1;go_enter Tryz.func178, Tryz.ntmps178;go_wp2;go_ret;exact ⟨show Ending.returned (.bool (k == 4)) = _ from ret_b (U HR).symm, Below.refl _ _⟩
theorem number_ok : IntOk 127 (fun k => decide (0 ≤ k) && decide (k ≤ 9007199254740991)) := fun W k => by
 by_cases h1 : 0 ≤ k
 · have a1 : decide (0 ≤ k) = true := by simpa using h1
   have HR : Hid ((decide (0 ≤ k) && decide (k ≤ 9007199254740991)) = decide (k ≤ 9007199254740991)) := by show (decide (0 ≤ k) && decide (k ≤ 9007199254740991)) = decide (k ≤ 9007199254740991); simp [a1]
   go_enter Tryz.func127, Tryz.ntmps127;go_wp2;go_ret;exact ⟨show Ending.returned (.bool (decide (k ≤ 9007199254740991))) = _ from ret_b (U HR).symm, Below.refl _ _⟩
 · have a1 : decide (0 ≤ k) = false := by simpa using h1
   have HR : Hid ((decide (0 ≤ k) && decide (k ≤ 9007199254740991)) = false) := by show (decide (0 ≤ k) && decide (k ≤ 9007199254740991)) = false; rw [a1]; rfl
   go_enter Tryz.func127, Tryz.ntmps127;go_wp2;go_ret
   first | exact ⟨rfl, Below.refl _ _⟩ | exact ⟨show Ending.returned (.bool false) = _ from ret_b (U HR).symm, Below.refl _ _⟩
theorem signedNumber_ok : IntOk 78 (fun k => decide (-9007199254740991 ≤ k) && decide (k ≤ 9007199254740991)) := fun W k => by
 by_cases h1 : -9007199254740991 ≤ k
 · have a1 : decide (-9007199254740991 ≤ k) = true := by simpa using h1
   have HR : Hid ((decide (-9007199254740991 ≤ k) && decide (k ≤ 9007199254740991)) = decide (k ≤ 9007199254740991)) := by show (decide (-9007199254740991 ≤ k) && decide (k ≤ 9007199254740991)) = decide (k ≤ 9007199254740991); simp [a1]
   go_enter Tryz.func78, Tryz.ntmps78;go_wp2;go_ret;exact ⟨show Ending.returned (.bool (decide (k ≤ 9007199254740991))) = _ from ret_b (U HR).symm, Below.refl _ _⟩
 · have a1 : decide (-9007199254740991 ≤ k) = false := by simpa using h1
   have HR : Hid ((decide (-9007199254740991 ≤ k) && decide (k ≤ 9007199254740991)) = false) := by show (decide (-9007199254740991 ≤ k) && decide (k ≤ 9007199254740991)) = false; rw [a1]; rfl
   go_enter Tryz.func78, Tryz.ntmps78;go_wp2;go_ret
   first | exact ⟨rfl, Below.refl _ _⟩ | exact ⟨show Ending.returned (.bool false) = _ from ret_b (U HR).symm, Below.refl _ _⟩
theorem marks_ok : IntOk 191 (fun k => decide (0 ≤ k) && decide (k ≤ 7)) := fun W k => by
 by_cases h1 : 0 ≤ k
 · have a1 : decide (0 ≤ k) = true := by simpa using h1
   have HR : Hid ((decide (0 ≤ k) && decide (k ≤ 7)) = decide (k ≤ 7)) := by show (decide (0 ≤ k) && decide (k ≤ 7)) = decide (k ≤ 7); simp [a1]
   go_enter Tryz.func191, Tryz.ntmps191;go_wp2;go_ret;exact ⟨show Ending.returned (.bool (decide (k ≤ 7))) = _ from ret_b (U HR).symm, Below.refl _ _⟩
 · have a1 : decide (0 ≤ k) = false := by simpa using h1
   have HR : Hid ((decide (0 ≤ k) && decide (k ≤ 7)) = false) := by show (decide (0 ≤ k) && decide (k ≤ 7)) = false; rw [a1]; rfl
   go_enter Tryz.func191, Tryz.ntmps191;go_wp2;go_ret
   first | exact ⟨rfl, Below.refl _ _⟩ | exact ⟨show Ending.returned (.bool false) = _ from ret_b (U HR).symm, Below.refl _ _⟩
theorem none_ok : PlOk 213 (pK 1) := fun W M v l n hN hn hM => by
 obtain ⟨b, o, cap, ka, kc, rfl, hcap, hmx, hb, d0, d1, d2, d3, d4, _, _, _⟩ := hN.at hn;have hlt : (n : Int) < l.length := by omega
 have hbW : b < W.heap.size := Nat.lt_of_lt_of_le hb hM;clear hN hn hcap hmx;have HR : Hid (pK 1 l n = ((nd l n).kind == 1)) := by show pK 1 l n = ((nd l n).kind == 1); rfl
 go_enter Tryz.func213, Tryz.ntmps213;go_wp2;go_ret;exact ⟨show Ending.returned (.bool ((nd l n).kind == 1)) = _ from ret_b (U HR).symm, Below.refl _ _⟩
theorem block_ok : PlOk 172 (pK 63) := fun W M v l n hN hn hM => by
 obtain ⟨b, o, cap, ka, kc, rfl, hcap, hmx, hb, d0, d1, d2, d3, d4, _, _, _⟩ := hN.at hn;have hlt : (n : Int) < l.length := by omega
 have hbW : b < W.heap.size := Nat.lt_of_lt_of_le hb hM;clear hN hn hcap hmx;have HR : Hid (pK 63 l n = ((nd l n).kind == 63)) := by show pK 63 l n = ((nd l n).kind == 63); rfl
 go_enter Tryz.func172, Tryz.ntmps172;go_wp2;go_ret;exact ⟨show Ending.returned (.bool ((nd l n).kind == 63)) = _ from ret_b (U HR).symm, Below.refl _ _⟩
theorem prop_ok : PlOk 130 (pK 21) := fun W M v l n hN hn hM => by
 obtain ⟨b, o, cap, ka, kc, rfl, hcap, hmx, hb, d0, d1, d2, d3, d4, _, _, _⟩ := hN.at hn;have hlt : (n : Int) < l.length := by omega
 have hbW : b < W.heap.size := Nat.lt_of_lt_of_le hb hM;clear hN hn hcap hmx;have HR : Hid (pK 21 l n = ((nd l n).kind == 21)) := by show pK 21 l n = ((nd l n).kind == 21); rfl
 go_enter Tryz.func130, Tryz.ntmps130;go_wp2;go_ret;exact ⟨show Ending.returned (.bool ((nd l n).kind == 21)) = _ from ret_b (U HR).symm, Below.refl _ _⟩
theorem enumMember_ok : PlOk 182 (pK 48) := fun W M v l n hN hn hM => by
 obtain ⟨b, o, cap, ka, kc, rfl, hcap, hmx, hb, d0, d1, d2, d3, d4, _, _, _⟩ := hN.at hn;have hlt : (n : Int) < l.length := by omega
 have hbW : b < W.heap.size := Nat.lt_of_lt_of_le hb hM;clear hN hn hcap hmx;have HR : Hid (pK 48 l n = ((nd l n).kind == 48)) := by show pK 48 l n = ((nd l n).kind == 48); rfl
 go_enter Tryz.func182, Tryz.ntmps182;go_wp2;go_ret;exact ⟨show Ending.returned (.bool ((nd l n).kind == 48)) = _ from ret_b (U HR).symm, Below.refl _ _⟩
theorem typeParam_ok : PlOk 171 (pK 67) := fun W M v l n hN hn hM => by
 obtain ⟨b, o, cap, ka, kc, rfl, hcap, hmx, hb, d0, d1, d2, d3, d4, _, _, _⟩ := hN.at hn;have hlt : (n : Int) < l.length := by omega
 have hbW : b < W.heap.size := Nat.lt_of_lt_of_le hb hM;clear hN hn hcap hmx;have HR : Hid (pK 67 l n = ((nd l n).kind == 67)) := by show pK 67 l n = ((nd l n).kind == 67); rfl
 go_enter Tryz.func171, Tryz.ntmps171;go_wp2;go_ret;exact ⟨show Ending.returned (.bool ((nd l n).kind == 67)) = _ from ret_b (U HR).symm, Below.refl _ _⟩
theorem typeName_ok : PlOk 214 (pK 80) := fun W M v l n hN hn hM => by
 obtain ⟨b, o, cap, ka, kc, rfl, hcap, hmx, hb, d0, d1, d2, d3, d4, _, _, _⟩ := hN.at hn;have hlt : (n : Int) < l.length := by omega
 have hbW : b < W.heap.size := Nat.lt_of_lt_of_le hb hM;clear hN hn hcap hmx;have HR : Hid (pK 80 l n = ((nd l n).kind == 80)) := by show pK 80 l n = ((nd l n).kind == 80); rfl
 go_enter Tryz.func214, Tryz.ntmps214;go_wp2;go_ret;exact ⟨show Ending.returned (.bool ((nd l n).kind == 80)) = _ from ret_b (U HR).symm, Below.refl _ _⟩
theorem typeObject_ok : PlOk 185 (pK 84) := fun W M v l n hN hn hM => by
 obtain ⟨b, o, cap, ka, kc, rfl, hcap, hmx, hb, d0, d1, d2, d3, d4, _, _, _⟩ := hN.at hn;have hlt : (n : Int) < l.length := by omega
 have hbW : b < W.heap.size := Nat.lt_of_lt_of_le hb hM;clear hN hn hcap hmx;have HR : Hid (pK 84 l n = ((nd l n).kind == 84)) := by show pK 84 l n = ((nd l n).kind == 84); rfl
 go_enter Tryz.func185, Tryz.ntmps185;go_wp2;go_ret;exact ⟨show Ending.returned (.bool ((nd l n).kind == 84)) = _ from ret_b (U HR).symm, Below.refl _ _⟩
theorem typeProp_ok : PlOk 81 (pK 85) := fun W M v l n hN hn hM => by
 obtain ⟨b, o, cap, ka, kc, rfl, hcap, hmx, hb, d0, d1, d2, d3, d4, _, _, _⟩ := hN.at hn;have hlt : (n : Int) < l.length := by omega
 have hbW : b < W.heap.size := Nat.lt_of_lt_of_le hb hM;clear hN hn hcap hmx;have HR : Hid (pK 85 l n = ((nd l n).kind == 85)) := by show pK 85 l n = ((nd l n).kind == 85); rfl
 go_enter Tryz.func81, Tryz.ntmps81;go_wp2;go_ret;exact ⟨show Ending.returned (.bool ((nd l n).kind == 85)) = _ from ret_b (U HR).symm, Below.refl _ _⟩
theorem markedParam_ok : PlOk 216 (pK 66) := fun W M v l n hN hn hM => by
 obtain ⟨b, o, cap, ka, kc, rfl, hcap, hmx, hb, d0, d1, d2, d3, d4, _, _, _⟩ := hN.at hn;have hlt : (n : Int) < l.length := by omega
 have hbW : b < W.heap.size := Nat.lt_of_lt_of_le hb hM;clear hN hn hcap hmx;have HR : Hid (pK 66 l n = ((nd l n).kind == 66)) := by show pK 66 l n = ((nd l n).kind == 66); rfl
 go_enter Tryz.func216, Tryz.ntmps216;go_wp2;go_ret;exact ⟨show Ending.returned (.bool ((nd l n).kind == 66)) = _ from ret_b (U HR).symm, Below.refl _ _⟩
theorem expr_ok : PlOk 128 pExpr := fun W M v l n hN hn hM => by
 obtain ⟨b, o, cap, ka, kc, rfl, hcap, hmx, hb, d0, d1, d2, d3, d4, _, _, _⟩ := hN.at hn;have hlt : (n : Int) < l.length := by omega
 have hbW : b < W.heap.size := Nat.lt_of_lt_of_le hb hM;clear hN hn hcap hmx;go_enter Tryz.func128, Tryz.ntmps128;go_wp2_with (go_at_call 170; refine (isExpr_any _ _).mono ?_; rintro e w2 ⟨rfl, rfl⟩);go_ret;exact ⟨rfl, Below.refl _ _⟩
theorem stmt_ok : PlOk 75 pStmt := fun W M v l n hN hn hM => by
 obtain ⟨b, o, cap, ka, kc, rfl, hcap, hmx, hb, d0, d1, d2, d3, d4, _, _, _⟩ := hN.at hn;have hlt : (n : Int) < l.length := by omega
 have hbW : b < W.heap.size := Nat.lt_of_lt_of_le hb hM;clear hN hn hcap hmx;go_enter Tryz.func75, Tryz.ntmps75;go_wp2_with (go_at_call 118; refine (isStmt_any _ _).mono ?_; rintro e w2 ⟨rfl, rfl⟩);go_ret;exact ⟨rfl, Below.refl _ _⟩
theorem typ_ok : PlOk 80 pTyp := fun W M v l n hN hn hM => by
 obtain ⟨b, o, cap, ka, kc, rfl, hcap, hmx, hb, d0, d1, d2, d3, d4, _, _, _⟩ := hN.at hn;have hlt : (n : Int) < l.length := by omega
 have hbW : b < W.heap.size := Nat.lt_of_lt_of_le hb hM;clear hN hn hcap hmx;go_enter Tryz.func80, Tryz.ntmps80;go_wp2_with (go_at_call 122; refine (isType_any _ _).mono ?_; rintro e w2 ⟨rfl, rfl⟩);go_ret;exact ⟨rfl, Below.refl _ _⟩
theorem anyNode_ok : PlOk 74 pAny := fun W M v l n hN hn hM => by
 obtain ⟨a, cap, rfl, _, _⟩ := hN.len;clear hN;go_enter Tryz.func74, Tryz.ntmps74;go_wp2;go_ret;exact ⟨rfl, Below.refl _ _⟩
theorem param_ok : PlOk 126 pParam := fun W M v l n hN hn hM => by
 obtain ⟨b, o, cap, ka, kc, rfl, hcap, hmx, hb, d0, d1, d2, d3, d4, _, _, _⟩ := hN.at hn;have hlt : (n : Int) < l.length := by omega
 have hbW : b < W.heap.size := Nat.lt_of_lt_of_le hb hM;clear hN hn hcap hmx;by_cases hk : (nd l n).kind = 66
 · have HR : Hid (pParam l n = zo (nd l n).num) := by show pParam l n = zo (nd l n).num; simp [pParam, hk]
   go_enter Tryz.func126, Tryz.ntmps126;go_wp2_with (go_at_call 83; refine (noneOrOptional_ok _ _).mono ?_; rintro e w2 ⟨rfl, hB⟩);go_ret;exact ⟨show Ending.returned (.bool (zo (nd l n).num)) = _ from ret_b (U HR).symm, hB⟩
 · have hk' : ((nd l n).kind == 66) = false := by simpa using hk
   have HR : Hid (pParam l n = false) := by show pParam l n = false; simp [pParam, hk']
   clear hk;go_enter Tryz.func126, Tryz.ntmps126;go_wp2;go_ret;exact ⟨show Ending.returned (.bool false) = _ from ret_b (U HR).symm, Below.refl _ _⟩
end
end Go.Proofs.YtofgphapjjofnaaGreatDoor.Tr

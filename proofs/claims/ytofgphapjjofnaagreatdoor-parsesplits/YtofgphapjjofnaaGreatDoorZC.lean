/- Towards the law: T4. -/
import Derived.Test.YtofgphapjjofnaaGreatDoorZB
set_option linter.unusedSimpArgs false
set_option linter.unusedVariables false
set_option maxRecDepth 100000
set_option maxHeartbeats 8000000
namespace Go.Proofs.YtofgphapjjofnaaGreatDoor.Tr
section
open Go.RowKit
theorem blockOrExpr_ok : PlOk 132 (pOr (pK 63) pExpr) := fun W M v l n hN hn hM => by
 have hN' := Hi hN;have hn' := Hi hn;have hM' := Hi hM;obtain ⟨b, o, cap, ka, kc, rfl, hcap, hmx, hb, d0, d1, d2, d3, d4, _, _, _⟩ := hN.at hn;have hlt : (n : Int) < l.length := by omega
 have hbW : b < W.heap.size := Nat.lt_of_lt_of_le hb hM;clear hN hn hcap hmx hM;cases hp : ((pK 63) l n) with
 | true =>
   have HR : Hid (pOr (pK 63) pExpr l n = true) := by have e : (pK 63) l n = true := hp; show ((pK 63) l n || pExpr l n) = true; rw [e]; rfl
   go_enter Tryz.func132, Tryz.ntmps132;go_wp2_with (go_at_call 172; refine (block_ok _ _ _ _ _ (U hN') (U hn') (U hM')).mono ?_; rintro e w2 ⟨rfl, hB2⟩);go_ret;rw [U HR];exact ⟨rfl, hB2⟩
 | false =>
   have HR : Hid (pOr (pK 63) pExpr l n = (pExpr l n)) := by have e : (pK 63) l n = false := hp; show ((pK 63) l n || pExpr l n) = (pExpr l n); rw [e]; rfl
   go_enter Tryz.func132, Tryz.ntmps132;go_wp2_with (first | (go_at_call 172; refine (block_ok _ _ _ _ _ (U hN') (U hn') (U hM')).mono ?_; rintro e w2 ⟨rfl, hB2⟩) | (go_at_call 128; refine (expr_ok _ _ _ _ _ ((U hN').keep hB2 (U hM')) (U hn') (Nat.le_trans (U hM') hB2.size)).mono ?_; rintro e w3 ⟨rfl, hB3⟩));go_ret;rw [U HR];exact ⟨rfl, hB2.trans (hB3.mono hB2.size)⟩
theorem stmtOrExport_ok : PlOk 183 (pOr pStmt (pK 50)) := fun W M v l n hN hn hM => by
 have hN' := Hi hN;have hn' := Hi hn;have hM' := Hi hM;obtain ⟨b, o, cap, ka, kc, rfl, hcap, hmx, hb, d0, d1, d2, d3, d4, _, _, _⟩ := hN.at hn;have hlt : (n : Int) < l.length := by omega
 have hbW : b < W.heap.size := Nat.lt_of_lt_of_le hb hM;clear hN hn hcap hmx hM;cases hp : (pStmt l n) with
 | true =>
   have HR : Hid (pOr pStmt (pK 50) l n = true) := by have e : pStmt l n = true := hp; show (pStmt l n || (pK 50) l n) = true; rw [e]; rfl
   go_enter Tryz.func183, Tryz.ntmps183;go_wp2_with (go_at_call 75; refine (stmt_ok _ _ _ _ _ (U hN') (U hn') (U hM')).mono ?_; rintro e w2 ⟨rfl, hB2⟩);go_ret;rw [U HR];exact ⟨rfl, hB2⟩
 | false =>
   have HR : Hid (pOr pStmt (pK 50) l n = ((nd l n).kind == 50)) := by have e : pStmt l n = false := hp; show (pStmt l n || (pK 50) l n) = ((nd l n).kind == 50); rw [e]; rfl
   go_enter Tryz.func183, Tryz.ntmps183;go_wp2_with (go_at_call 75; refine (stmt_ok _ _ _ _ _ (U hN') (U hn') (U hM')).mono ?_; rintro e w2 ⟨rfl, hB2⟩; have d0 := (hB2.cell (p := ⟨b, o + n * 5, none⟩) hbW).trans d0);go_ret;rw [U HR];exact ⟨rfl, hB2⟩
theorem exprOrNone_ok : PlOk 179 (pOr pExpr (pK 1)) := fun W M v l n hN hn hM => by
 have hN' := Hi hN;have hn' := Hi hn;have hM' := Hi hM;obtain ⟨b, o, cap, ka, kc, rfl, hcap, hmx, hb, d0, d1, d2, d3, d4, _, _, _⟩ := hN.at hn;have hlt : (n : Int) < l.length := by omega
 have hbW : b < W.heap.size := Nat.lt_of_lt_of_le hb hM;clear hN hn hcap hmx hM;cases hp : (pExpr l n) with
 | true =>
   have HR : Hid (pOr pExpr (pK 1) l n = true) := by have e : pExpr l n = true := hp; show (pExpr l n || (pK 1) l n) = true; rw [e]; rfl
   go_enter Tryz.func179, Tryz.ntmps179;go_wp2_with (go_at_call 128; refine (expr_ok _ _ _ _ _ (U hN') (U hn') (U hM')).mono ?_; rintro e w2 ⟨rfl, hB2⟩);go_ret;rw [U HR];exact ⟨rfl, hB2⟩
 | false =>
   have HR : Hid (pOr pExpr (pK 1) l n = ((pK 1) l n)) := by have e : pExpr l n = false := hp; show (pExpr l n || (pK 1) l n) = ((pK 1) l n); rw [e]; rfl
   go_enter Tryz.func179, Tryz.ntmps179;go_wp2_with (first | (go_at_call 128; refine (expr_ok _ _ _ _ _ (U hN') (U hn') (U hM')).mono ?_; rintro e w2 ⟨rfl, hB2⟩) | (go_at_call 213; refine (none_ok _ _ _ _ _ ((U hN').keep hB2 (U hM')) (U hn') (Nat.le_trans (U hM') hB2.size)).mono ?_; rintro e w3 ⟨rfl, hB3⟩));go_ret;rw [U HR];exact ⟨rfl, hB2.trans (hB3.mono hB2.size)⟩
theorem typeOrNone_ok : PlOk 174 (pOr pTyp (pK 1)) := fun W M v l n hN hn hM => by
 have hN' := Hi hN;have hn' := Hi hn;have hM' := Hi hM;obtain ⟨b, o, cap, ka, kc, rfl, hcap, hmx, hb, d0, d1, d2, d3, d4, _, _, _⟩ := hN.at hn;have hlt : (n : Int) < l.length := by omega
 have hbW : b < W.heap.size := Nat.lt_of_lt_of_le hb hM;clear hN hn hcap hmx hM;cases hp : (pTyp l n) with
 | true =>
   have HR : Hid (pOr pTyp (pK 1) l n = true) := by have e : pTyp l n = true := hp; show (pTyp l n || (pK 1) l n) = true; rw [e]; rfl
   go_enter Tryz.func174, Tryz.ntmps174;go_wp2_with (go_at_call 80; refine (typ_ok _ _ _ _ _ (U hN') (U hn') (U hM')).mono ?_; rintro e w2 ⟨rfl, hB2⟩);go_ret;rw [U HR];exact ⟨rfl, hB2⟩
 | false =>
   have HR : Hid (pOr pTyp (pK 1) l n = ((pK 1) l n)) := by have e : pTyp l n = false := hp; show (pTyp l n || (pK 1) l n) = ((pK 1) l n); rw [e]; rfl
   go_enter Tryz.func174, Tryz.ntmps174;go_wp2_with (first | (go_at_call 80; refine (typ_ok _ _ _ _ _ (U hN') (U hn') (U hM')).mono ?_; rintro e w2 ⟨rfl, hB2⟩) | (go_at_call 213; refine (none_ok _ _ _ _ _ ((U hN').keep hB2 (U hM')) (U hn') (Nat.le_trans (U hM') hB2.size)).mono ?_; rintro e w3 ⟨rfl, hB3⟩));go_ret;rw [U HR];exact ⟨rfl, hB2.trans (hB3.mono hB2.size)⟩
theorem blockOrNone_ok : PlOk 189 (pOr (pK 63) (pK 1)) := fun W M v l n hN hn hM => by
 have hN' := Hi hN;have hn' := Hi hn;have hM' := Hi hM;obtain ⟨b, o, cap, ka, kc, rfl, hcap, hmx, hb, d0, d1, d2, d3, d4, _, _, _⟩ := hN.at hn;have hlt : (n : Int) < l.length := by omega
 have hbW : b < W.heap.size := Nat.lt_of_lt_of_le hb hM;clear hN hn hcap hmx hM;cases hp : ((pK 63) l n) with
 | true =>
   have HR : Hid (pOr (pK 63) (pK 1) l n = true) := by have e : (pK 63) l n = true := hp; show ((pK 63) l n || (pK 1) l n) = true; rw [e]; rfl
   go_enter Tryz.func189, Tryz.ntmps189;go_wp2_with (go_at_call 172; refine (block_ok _ _ _ _ _ (U hN') (U hn') (U hM')).mono ?_; rintro e w2 ⟨rfl, hB2⟩);go_ret;rw [U HR];exact ⟨rfl, hB2⟩
 | false =>
   have HR : Hid (pOr (pK 63) (pK 1) l n = ((pK 1) l n)) := by have e : (pK 63) l n = false := hp; show ((pK 63) l n || (pK 1) l n) = ((pK 1) l n); rw [e]; rfl
   go_enter Tryz.func189, Tryz.ntmps189;go_wp2_with (first | (go_at_call 172; refine (block_ok _ _ _ _ _ (U hN') (U hn') (U hM')).mono ?_; rintro e w2 ⟨rfl, hB2⟩) | (go_at_call 213; refine (none_ok _ _ _ _ _ ((U hN').keep hB2 (U hM')) (U hn') (Nat.le_trans (U hM') hB2.size)).mono ?_; rintro e w3 ⟨rfl, hB3⟩));go_ret;rw [U HR];exact ⟨rfl, hB2.trans (hB3.mono hB2.size)⟩
theorem baseOrNone_ok : PlOk 175 (pOr (pK 43) (pK 1)) := fun W M v l n hN hn hM => by
 have hN' := Hi hN;have hn' := Hi hn;have hM' := Hi hM;obtain ⟨b, o, cap, ka, kc, rfl, hcap, hmx, hb, d0, d1, d2, d3, d4, _, _, _⟩ := hN.at hn;have hlt : (n : Int) < l.length := by omega
 have hbW : b < W.heap.size := Nat.lt_of_lt_of_le hb hM;clear hN hn hcap hmx hM;cases hp : ((nd l n).kind == 43) with
 | true =>
   have HR : Hid (pOr (pK 43) (pK 1) l n = true) := by have e : (pK 43) l n = true := hp; show ((pK 43) l n || (pK 1) l n) = true; rw [e]; rfl
   go_enter Tryz.func175, Tryz.ntmps175;go_wp2;go_ret;rw [U HR];exact ⟨rfl, Below.refl _ _⟩
 | false =>
   have HR : Hid (pOr (pK 43) (pK 1) l n = ((pK 1) l n)) := by have e : (pK 43) l n = false := hp; show ((pK 43) l n || (pK 1) l n) = ((pK 1) l n); rw [e]; rfl
   go_enter Tryz.func175, Tryz.ntmps175;go_wp2_with (go_at_call 213; refine (none_ok _ _ _ _ _ (U hN') (U hn') (U hM')).mono ?_; rintro e w2 ⟨rfl, hB2⟩);go_ret;rw [U HR];exact ⟨rfl, hB2⟩
theorem catchOrNone_ok : PlOk 188 (pOr (pK 62) (pK 1)) := fun W M v l n hN hn hM => by
 have hN' := Hi hN;have hn' := Hi hn;have hM' := Hi hM;obtain ⟨b, o, cap, ka, kc, rfl, hcap, hmx, hb, d0, d1, d2, d3, d4, _, _, _⟩ := hN.at hn;have hlt : (n : Int) < l.length := by omega
 have hbW : b < W.heap.size := Nat.lt_of_lt_of_le hb hM;clear hN hn hcap hmx hM;cases hp : ((nd l n).kind == 62) with
 | true =>
   have HR : Hid (pOr (pK 62) (pK 1) l n = true) := by have e : (pK 62) l n = true := hp; show ((pK 62) l n || (pK 1) l n) = true; rw [e]; rfl
   go_enter Tryz.func188, Tryz.ntmps188;go_wp2;go_ret;rw [U HR];exact ⟨rfl, Below.refl _ _⟩
 | false =>
   have HR : Hid (pOr (pK 62) (pK 1) l n = ((pK 1) l n)) := by have e : (pK 62) l n = false := hp; show ((pK 62) l n || (pK 1) l n) = ((pK 1) l n); rw [e]; rfl
   go_enter Tryz.func188, Tryz.ntmps188;go_wp2_with (go_at_call 213; refine (none_ok _ _ _ _ _ (U hN') (U hn') (U hM')).mono ?_; rintro e w2 ⟨rfl, hB2⟩);go_ret;rw [U HR];exact ⟨rfl, hB2⟩
theorem elseOrNone_ok : PlOk 186 (pOr (pK 53) (pOr (pK 63) (pK 1))) := fun W M v l n hN hn hM => by
 have hN' := Hi hN;have hn' := Hi hn;have hM' := Hi hM;obtain ⟨b, o, cap, ka, kc, rfl, hcap, hmx, hb, d0, d1, d2, d3, d4, _, _, _⟩ := hN.at hn;have hlt : (n : Int) < l.length := by omega
 have hbW : b < W.heap.size := Nat.lt_of_lt_of_le hb hM;clear hN hn hcap hmx hM;cases hp : ((nd l n).kind == 53) with
 | true =>
   have HR : Hid (pOr (pK 53) (pOr (pK 63) (pK 1)) l n = true) := by have e : (pK 53) l n = true := hp; show ((pK 53) l n || (pOr (pK 63) (pK 1)) l n) = true; rw [e]; rfl
   go_enter Tryz.func186, Tryz.ntmps186;go_wp2;go_ret;rw [U HR];exact ⟨rfl, Below.refl _ _⟩
 | false =>
   have HR : Hid (pOr (pK 53) (pOr (pK 63) (pK 1)) l n = ((pOr (pK 63) (pK 1)) l n)) := by have e : (pK 53) l n = false := hp; show ((pK 53) l n || (pOr (pK 63) (pK 1)) l n) = ((pOr (pK 63) (pK 1)) l n); rw [e]; rfl
   go_enter Tryz.func186, Tryz.ntmps186;go_wp2_with (go_at_call 189; refine (blockOrNone_ok _ _ _ _ _ (U hN') (U hn') (U hM')).mono ?_; rintro e w2 ⟨rfl, hB2⟩);go_ret;rw [U HR];exact ⟨rfl, hB2⟩
theorem letOrNone_ok : PlOk 187 pLet := fun W M v l n hN hn hM => by
 have hN' := Hi hN;have hn' := Hi hn;have hM' := Hi hM;obtain ⟨b, o, cap, ka, kc, rfl, hcap, hmx, hb, d0, d1, d2, d3, d4, _, _, _⟩ := hN.at hn;have hlt : (n : Int) < l.length := by omega
 have hbW : b < W.heap.size := Nat.lt_of_lt_of_le hb hM;clear hN hn hcap hmx hM;cases hp : ((nd l n).kind == 40) with
 | true =>
   cases hq : ((nd l n).num == 0) with
   | true =>
     have HR : Hid (pLet l n = true) := by show (((nd l n).kind == 40 && (nd l n).num == 0) || pK 1 l n) = true; rw [hp, hq]; rfl
     go_enter Tryz.func187, Tryz.ntmps187;go_wp2;go_ret;rw [U HR];exact ⟨rfl, Below.refl _ _⟩
   | false =>
     have HR : Hid (pLet l n = pK 1 l n) := by show (((nd l n).kind == 40 && (nd l n).num == 0) || pK 1 l n) = pK 1 l n; rw [hp, hq]; rfl
     go_enter Tryz.func187, Tryz.ntmps187;go_wp2_with (go_at_call 213; refine (none_ok _ _ _ _ _ (U hN') (U hn') (U hM')).mono ?_; rintro e w2 ⟨rfl, hB2⟩);go_ret;rw [U HR];exact ⟨rfl, hB2⟩
 | false =>
   have HR : Hid (pLet l n = pK 1 l n) := by show (((nd l n).kind == 40 && (nd l n).num == 0) || pK 1 l n) = pK 1 l n; rw [hp]; rfl
   go_enter Tryz.func187, Tryz.ntmps187;go_wp2_with (go_at_call 213; refine (none_ok _ _ _ _ _ (U hN') (U hn') (U hM')).mono ?_; rintro e w2 ⟨rfl, hB2⟩);go_ret;rw [U HR];exact ⟨rfl, hB2⟩
theorem assigned_ok : PlOk 136 pAsg := fun W M v l n hN hn hM => by
 have hN' := Hi hN;have hn' := Hi hn;have hM' := Hi hM;obtain ⟨b, o, cap, ka, kc, rfl, hcap, hmx, hb, d0, d1, d2, d3, d4, _, _, _⟩ := hN.at hn;have hlt : (n : Int) < l.length := by omega
 have hbW : b < W.heap.size := Nat.lt_of_lt_of_le hb hM;clear hN hn hcap hmx hM;cases q17 : ((nd l n).kind == 17) with
 | true =>
   have e17 : (nd l n).kind = 17 := by simpa using q17
   have HR : Hid (pAsg l n = (true)) := by show pAsg l n = (true); simp [pAsg, expOk, expK, e17]
   clear e17;go_enter Tryz.func136, Tryz.ntmps136;go_wp2;go_ret;rw [U HR];exact ⟨rfl, Below.refl _ _⟩
 | false =>
   cases q29 : ((nd l n).kind == 29) with
   | true =>
     have e29 : (nd l n).kind = 29 := by simpa using q29
     have HR : Hid (pAsg l n = (true)) := by show pAsg l n = (true); simp [pAsg, expOk, expK, e29]
     clear e29;go_enter Tryz.func136, Tryz.ntmps136;go_wp2;go_ret;rw [U HR];exact ⟨rfl, Below.refl _ _⟩
   | false =>
     cases q30 : ((nd l n).kind == 30) with
     | true =>
       have e30 : (nd l n).kind = 30 := by simpa using q30
       have HR : Hid (pAsg l n = (true)) := by show pAsg l n = (true); simp [pAsg, expOk, expK, e30]
       clear e30;go_enter Tryz.func136, Tryz.ntmps136;go_wp2;go_ret;rw [U HR];exact ⟨rfl, Below.refl _ _⟩
     | false =>
       have HR : Hid (pAsg l n = false) := by have z17 : (nd l n).kind ≠ 17 := (by simpa using q17); have z29 : (nd l n).kind ≠ 29 := (by simpa using q29); have z30 : (nd l n).kind ≠ 30 := (by simpa using q30); show pAsg l n = false; simp [pAsg, expOk, expK, z17, z29, z30]
       go_enter Tryz.func136, Tryz.ntmps136;go_wp2;go_ret;rw [U HR];exact ⟨rfl, Below.refl _ _⟩
theorem exported_ok : PlOk 184 pExp := fun W M v l n hN hn hM => by
 have hN' := Hi hN;have hn' := Hi hn;have hM' := Hi hM;obtain ⟨b, o, cap, ka, kc, rfl, hcap, hmx, hb, d0, d1, d2, d3, d4, _, _, _⟩ := hN.at hn;have hlt : (n : Int) < l.length := by omega
 have hbW : b < W.heap.size := Nat.lt_of_lt_of_le hb hM;clear hN hn hcap hmx hM;cases q40 : ((nd l n).kind == 40) with
 | true =>
   have e40 : (nd l n).kind = 40 := by simpa using q40
   have HR : Hid (pExp l n = ((nd l n).num == 1)) := by show pExp l n = ((nd l n).num == 1); simp [pExp, expOk, expK, e40]
   clear e40;go_enter Tryz.func184, Tryz.ntmps184;go_wp2;go_ret;rw [U HR];exact ⟨rfl, Below.refl _ _⟩
 | false =>
   cases q47 : ((nd l n).kind == 47) with
   | true =>
     have e47 : (nd l n).kind = 47 := by simpa using q47
     have HR : Hid (pExp l n = (!((nd l n).num == 1))) := by show pExp l n = (!((nd l n).num == 1)); simp [pExp, expOk, expK, e47]
     clear e47;go_enter Tryz.func184, Tryz.ntmps184;go_wp2;go_ret;rw [U HR];exact ⟨rfl, Below.refl _ _⟩
   | false =>
     cases q41 : ((nd l n).kind == 41) with
     | true =>
       have e41 : (nd l n).kind = 41 := by simpa using q41
       have HR : Hid (pExp l n = (true)) := by show pExp l n = (true); simp [pExp, expOk, expK, e41]
       clear e41;go_enter Tryz.func184, Tryz.ntmps184;go_wp2;go_ret;rw [U HR];exact ⟨rfl, Below.refl _ _⟩
     | false =>
       cases q42 : ((nd l n).kind == 42) with
       | true =>
         have e42 : (nd l n).kind = 42 := by simpa using q42
         have HR : Hid (pExp l n = (true)) := by show pExp l n = (true); simp [pExp, expOk, expK, e42]
         clear e42;go_enter Tryz.func184, Tryz.ntmps184;go_wp2;go_ret;rw [U HR];exact ⟨rfl, Below.refl _ _⟩
       | false =>
         cases q49 : ((nd l n).kind == 49) with
         | true =>
           have e49 : (nd l n).kind = 49 := by simpa using q49
           have HR : Hid (pExp l n = (true)) := by show pExp l n = (true); simp [pExp, expOk, expK, e49]
           clear e49;go_enter Tryz.func184, Tryz.ntmps184;go_wp2;go_ret;rw [U HR];exact ⟨rfl, Below.refl _ _⟩
         | false =>
           cases q51 : ((nd l n).kind == 51) with
           | true =>
             have e51 : (nd l n).kind = 51 := by simpa using q51
             have HR : Hid (pExp l n = (true)) := by show pExp l n = (true); simp [pExp, expOk, expK, e51]
             clear e51;go_enter Tryz.func184, Tryz.ntmps184;go_wp2;go_ret;rw [U HR];exact ⟨rfl, Below.refl _ _⟩
           | false =>
             cases q52 : ((nd l n).kind == 52) with
             | true =>
               have e52 : (nd l n).kind = 52 := by simpa using q52
               have HR : Hid (pExp l n = (true)) := by show pExp l n = (true); simp [pExp, expOk, expK, e52]
               clear e52;go_enter Tryz.func184, Tryz.ntmps184;go_wp2;go_ret;rw [U HR];exact ⟨rfl, Below.refl _ _⟩
             | false =>
               have HR : Hid (pExp l n = false) := by have z40 : (nd l n).kind ≠ 40 := (by simpa using q40); have z47 : (nd l n).kind ≠ 47 := (by simpa using q47); have z41 : (nd l n).kind ≠ 41 := (by simpa using q41); have z42 : (nd l n).kind ≠ 42 := (by simpa using q42); have z49 : (nd l n).kind ≠ 49 := (by simpa using q49); have z51 : (nd l n).kind ≠ 51 := (by simpa using q51); have z52 : (nd l n).kind ≠ 52 := (by simpa using q52); show pExp l n = false; simp [pExp, expOk, expK, z40, z47, z41, z42, z49, z51, z52]
               go_enter Tryz.func184, Tryz.ntmps184;go_wp2;go_ret;rw [U HR];exact ⟨rfl, Below.refl _ _⟩
end
end Go.Proofs.YtofgphapjjofnaaGreatDoor.Tr

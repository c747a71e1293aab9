/- The places of the table: each function takes just the nodes of its place. -/
import Derived.Test.YtnnpkomedpjlcaaGreatDoorT2
namespace Go.Proofs.YtnnpkomedpjlcaaGreatDoor
set_option linter.unusedSimpArgs false
set_option linter.unusedVariables false
open Go.RowKit

set_option maxRecDepth 100000 in
theorem none_ok : PlOk 149 (pK 1) := fun W M v l n hN hn hM => by
  obtain ⟨b, o, cap, ka, kc, rfl, hcap, hmx, hb, d0, d1, d2, d3, d4, _, _, _⟩ := hN.at hn
  have hlt : (n : Int) < l.length := by omega
  have hbW : b < W.heap.size := Nat.lt_of_lt_of_le hb hM
  clear hN hn hcap hmx
  have HR : Hid (pK 1 l n = ((nd l n).kind == 1)) := by show pK 1 l n = ((nd l n).kind == 1); rfl
  go_enter Tryz.func149, Tryz.ntmps149
  go_wp2
  go_ret
  exact ⟨show Ending.returned (.bool ((nd l n).kind == 1)) = _ from ret_b (unhide HR).symm, Below.refl _ _⟩

set_option maxRecDepth 100000 in
theorem block_ok : PlOk 121 (pK 63) := fun W M v l n hN hn hM => by
  obtain ⟨b, o, cap, ka, kc, rfl, hcap, hmx, hb, d0, d1, d2, d3, d4, _, _, _⟩ := hN.at hn
  have hlt : (n : Int) < l.length := by omega
  have hbW : b < W.heap.size := Nat.lt_of_lt_of_le hb hM
  clear hN hn hcap hmx
  have HR : Hid (pK 63 l n = ((nd l n).kind == 63)) := by show pK 63 l n = ((nd l n).kind == 63); rfl
  go_enter Tryz.func121, Tryz.ntmps121
  go_wp2
  go_ret
  exact ⟨show Ending.returned (.bool ((nd l n).kind == 63)) = _ from ret_b (unhide HR).symm, Below.refl _ _⟩

set_option maxRecDepth 100000 in
theorem prop_ok : PlOk 94 (pK 21) := fun W M v l n hN hn hM => by
  obtain ⟨b, o, cap, ka, kc, rfl, hcap, hmx, hb, d0, d1, d2, d3, d4, _, _, _⟩ := hN.at hn
  have hlt : (n : Int) < l.length := by omega
  have hbW : b < W.heap.size := Nat.lt_of_lt_of_le hb hM
  clear hN hn hcap hmx
  have HR : Hid (pK 21 l n = ((nd l n).kind == 21)) := by show pK 21 l n = ((nd l n).kind == 21); rfl
  go_enter Tryz.func94, Tryz.ntmps94
  go_wp2
  go_ret
  exact ⟨show Ending.returned (.bool ((nd l n).kind == 21)) = _ from ret_b (unhide HR).symm, Below.refl _ _⟩

set_option maxRecDepth 100000 in
theorem enumMember_ok : PlOk 131 (pK 48) := fun W M v l n hN hn hM => by
  obtain ⟨b, o, cap, ka, kc, rfl, hcap, hmx, hb, d0, d1, d2, d3, d4, _, _, _⟩ := hN.at hn
  have hlt : (n : Int) < l.length := by omega
  have hbW : b < W.heap.size := Nat.lt_of_lt_of_le hb hM
  clear hN hn hcap hmx
  have HR : Hid (pK 48 l n = ((nd l n).kind == 48)) := by show pK 48 l n = ((nd l n).kind == 48); rfl
  go_enter Tryz.func131, Tryz.ntmps131
  go_wp2
  go_ret
  exact ⟨show Ending.returned (.bool ((nd l n).kind == 48)) = _ from ret_b (unhide HR).symm, Below.refl _ _⟩

set_option maxRecDepth 100000 in
theorem typeParam_ok : PlOk 120 (pK 67) := fun W M v l n hN hn hM => by
  obtain ⟨b, o, cap, ka, kc, rfl, hcap, hmx, hb, d0, d1, d2, d3, d4, _, _, _⟩ := hN.at hn
  have hlt : (n : Int) < l.length := by omega
  have hbW : b < W.heap.size := Nat.lt_of_lt_of_le hb hM
  clear hN hn hcap hmx
  have HR : Hid (pK 67 l n = ((nd l n).kind == 67)) := by show pK 67 l n = ((nd l n).kind == 67); rfl
  go_enter Tryz.func120, Tryz.ntmps120
  go_wp2
  go_ret
  exact ⟨show Ending.returned (.bool ((nd l n).kind == 67)) = _ from ret_b (unhide HR).symm, Below.refl _ _⟩

set_option maxRecDepth 100000 in
theorem typeName_ok : PlOk 150 (pK 80) := fun W M v l n hN hn hM => by
  obtain ⟨b, o, cap, ka, kc, rfl, hcap, hmx, hb, d0, d1, d2, d3, d4, _, _, _⟩ := hN.at hn
  have hlt : (n : Int) < l.length := by omega
  have hbW : b < W.heap.size := Nat.lt_of_lt_of_le hb hM
  clear hN hn hcap hmx
  have HR : Hid (pK 80 l n = ((nd l n).kind == 80)) := by show pK 80 l n = ((nd l n).kind == 80); rfl
  go_enter Tryz.func150, Tryz.ntmps150
  go_wp2
  go_ret
  exact ⟨show Ending.returned (.bool ((nd l n).kind == 80)) = _ from ret_b (unhide HR).symm, Below.refl _ _⟩

set_option maxRecDepth 100000 in
theorem typeObject_ok : PlOk 134 (pK 84) := fun W M v l n hN hn hM => by
  obtain ⟨b, o, cap, ka, kc, rfl, hcap, hmx, hb, d0, d1, d2, d3, d4, _, _, _⟩ := hN.at hn
  have hlt : (n : Int) < l.length := by omega
  have hbW : b < W.heap.size := Nat.lt_of_lt_of_le hb hM
  clear hN hn hcap hmx
  have HR : Hid (pK 84 l n = ((nd l n).kind == 84)) := by show pK 84 l n = ((nd l n).kind == 84); rfl
  go_enter Tryz.func134, Tryz.ntmps134
  go_wp2
  go_ret
  exact ⟨show Ending.returned (.bool ((nd l n).kind == 84)) = _ from ret_b (unhide HR).symm, Below.refl _ _⟩

set_option maxRecDepth 100000 in
theorem typeProp_ok : PlOk 66 (pK 85) := fun W M v l n hN hn hM => by
  obtain ⟨b, o, cap, ka, kc, rfl, hcap, hmx, hb, d0, d1, d2, d3, d4, _, _, _⟩ := hN.at hn
  have hlt : (n : Int) < l.length := by omega
  have hbW : b < W.heap.size := Nat.lt_of_lt_of_le hb hM
  clear hN hn hcap hmx
  have HR : Hid (pK 85 l n = ((nd l n).kind == 85)) := by show pK 85 l n = ((nd l n).kind == 85); rfl
  go_enter Tryz.func66, Tryz.ntmps66
  go_wp2
  go_ret
  exact ⟨show Ending.returned (.bool ((nd l n).kind == 85)) = _ from ret_b (unhide HR).symm, Below.refl _ _⟩

set_option maxRecDepth 100000 in
theorem markedParam_ok : PlOk 152 (pK 66) := fun W M v l n hN hn hM => by
  obtain ⟨b, o, cap, ka, kc, rfl, hcap, hmx, hb, d0, d1, d2, d3, d4, _, _, _⟩ := hN.at hn
  have hlt : (n : Int) < l.length := by omega
  have hbW : b < W.heap.size := Nat.lt_of_lt_of_le hb hM
  clear hN hn hcap hmx
  have HR : Hid (pK 66 l n = ((nd l n).kind == 66)) := by show pK 66 l n = ((nd l n).kind == 66); rfl
  go_enter Tryz.func152, Tryz.ntmps152
  go_wp2
  go_ret
  exact ⟨show Ending.returned (.bool ((nd l n).kind == 66)) = _ from ret_b (unhide HR).symm, Below.refl _ _⟩

set_option maxRecDepth 100000 in
theorem expr_ok : PlOk 92 pExpr := fun W M v l n hN hn hM => by
  obtain ⟨b, o, cap, ka, kc, rfl, hcap, hmx, hb, d0, d1, d2, d3, d4, _, _, _⟩ := hN.at hn
  have hlt : (n : Int) < l.length := by omega
  have hbW : b < W.heap.size := Nat.lt_of_lt_of_le hb hM
  clear hN hn hcap hmx
  go_enter Tryz.func92, Tryz.ntmps92
  go_wp2_with (go_at_call 119; refine (isExpr_any _ _).mono ?_; rintro e w2 ⟨rfl, rfl⟩)
  go_ret
  exact ⟨rfl, Below.refl _ _⟩

set_option maxRecDepth 100000 in
theorem stmt_ok : PlOk 60 pStmt := fun W M v l n hN hn hM => by
  obtain ⟨b, o, cap, ka, kc, rfl, hcap, hmx, hb, d0, d1, d2, d3, d4, _, _, _⟩ := hN.at hn
  have hlt : (n : Int) < l.length := by omega
  have hbW : b < W.heap.size := Nat.lt_of_lt_of_le hb hM
  clear hN hn hcap hmx
  go_enter Tryz.func60, Tryz.ntmps60
  go_wp2_with (go_at_call 82; refine (isStmt_any _ _).mono ?_; rintro e w2 ⟨rfl, rfl⟩)
  go_ret
  exact ⟨rfl, Below.refl _ _⟩

set_option maxRecDepth 100000 in
theorem typ_ok : PlOk 65 pTyp := fun W M v l n hN hn hM => by
  obtain ⟨b, o, cap, ka, kc, rfl, hcap, hmx, hb, d0, d1, d2, d3, d4, _, _, _⟩ := hN.at hn
  have hlt : (n : Int) < l.length := by omega
  have hbW : b < W.heap.size := Nat.lt_of_lt_of_le hb hM
  clear hN hn hcap hmx
  go_enter Tryz.func65, Tryz.ntmps65
  go_wp2_with (go_at_call 86; refine (isType_any _ _).mono ?_; rintro e w2 ⟨rfl, rfl⟩)
  go_ret
  exact ⟨rfl, Below.refl _ _⟩

set_option maxRecDepth 100000 in
theorem anyNode_ok : PlOk 59 pAny := fun W M v l n hN hn hM => by
  obtain ⟨a, cap, rfl, _, _⟩ := hN.len
  clear hN
  go_enter Tryz.func59, Tryz.ntmps59
  go_wp2
  go_ret
  exact ⟨rfl, Below.refl _ _⟩

set_option maxRecDepth 100000 in
theorem param_ok : PlOk 90 pParam := fun W M v l n hN hn hM => by
  obtain ⟨b, o, cap, ka, kc, rfl, hcap, hmx, hb, d0, d1, d2, d3, d4, _, _, _⟩ := hN.at hn
  have hlt : (n : Int) < l.length := by omega
  have hbW : b < W.heap.size := Nat.lt_of_lt_of_le hb hM
  clear hN hn hcap hmx
  by_cases hk : (nd l n).kind = 66
  · have HR : Hid (pParam l n = zo (nd l n).num) := by show pParam l n = zo (nd l n).num; simp [pParam, hk]
    go_enter Tryz.func90, Tryz.ntmps90
    go_wp2_with (go_at_call 68; refine (noneOrOptional_ok _ _).mono ?_; rintro e w2 ⟨rfl, hB⟩)
    go_ret
    exact ⟨show Ending.returned (.bool (zo (nd l n).num)) = _ from ret_b (unhide HR).symm, hB⟩
  · have hk' : ((nd l n).kind == 66) = false := by simpa using hk
    have HR : Hid (pParam l n = false) := by show pParam l n = false; simp [pParam, hk']
    clear hk
    go_enter Tryz.func90, Tryz.ntmps90
    go_wp2
    go_ret
    exact ⟨show Ending.returned (.bool false) = _ from ret_b (unhide HR).symm, Below.refl _ _⟩
end Go.Proofs.YtnnpkomedpjlcaaGreatDoor

/- The places of the table: each function takes just the nodes of its place. -/
import Derived.Test.YtoffpbaddehncabDoorT2
namespace Go.Proofs.YtoffpbaddehncabDoor
set_option linter.unusedSimpArgs false
set_option linter.unusedVariables false
open Go.RowKit


set_option maxRecDepth 100000 in
theorem none_ok : PlOk 86 (pK 1) := fun W M v l n hN hn hM => by
  obtain ⟨b, o, cap, ka, kc, rfl, hcap, hmx, hb, d0, d1, d2, d3, d4, _, _, _⟩ := hN.at hn
  have hlt : (n : Int) < l.length := by omega
  have hbW : b < W.heap.size := Nat.lt_of_lt_of_le hb hM
  clear hN hn hcap hmx
  have HR : Hid (pK 1 l n = ((nd l n).kind == 1)) := by show pK 1 l n = ((nd l n).kind == 1); rfl
  go_enter Tryd.func86, Tryd.ntmps86
  go_wp2
  go_ret
  exact ⟨show Ending.returned (.bool ((nd l n).kind == 1)) = _ from ret_b (unhide HR).symm, Below.refl _ _⟩

set_option maxRecDepth 100000 in
theorem block_ok : PlOk 63 (pK 63) := fun W M v l n hN hn hM => by
  obtain ⟨b, o, cap, ka, kc, rfl, hcap, hmx, hb, d0, d1, d2, d3, d4, _, _, _⟩ := hN.at hn
  have hlt : (n : Int) < l.length := by omega
  have hbW : b < W.heap.size := Nat.lt_of_lt_of_le hb hM
  clear hN hn hcap hmx
  have HR : Hid (pK 63 l n = ((nd l n).kind == 63)) := by show pK 63 l n = ((nd l n).kind == 63); rfl
  go_enter Tryd.func63, Tryd.ntmps63
  go_wp2
  go_ret
  exact ⟨show Ending.returned (.bool ((nd l n).kind == 63)) = _ from ret_b (unhide HR).symm, Below.refl _ _⟩

set_option maxRecDepth 100000 in
theorem prop_ok : PlOk 48 (pK 21) := fun W M v l n hN hn hM => by
  obtain ⟨b, o, cap, ka, kc, rfl, hcap, hmx, hb, d0, d1, d2, d3, d4, _, _, _⟩ := hN.at hn
  have hlt : (n : Int) < l.length := by omega
  have hbW : b < W.heap.size := Nat.lt_of_lt_of_le hb hM
  clear hN hn hcap hmx
  have HR : Hid (pK 21 l n = ((nd l n).kind == 21)) := by show pK 21 l n = ((nd l n).kind == 21); rfl
  go_enter Tryd.func48, Tryd.ntmps48
  go_wp2
  go_ret
  exact ⟨show Ending.returned (.bool ((nd l n).kind == 21)) = _ from ret_b (unhide HR).symm, Below.refl _ _⟩

set_option maxRecDepth 100000 in
theorem enumMember_ok : PlOk 73 (pK 48) := fun W M v l n hN hn hM => by
  obtain ⟨b, o, cap, ka, kc, rfl, hcap, hmx, hb, d0, d1, d2, d3, d4, _, _, _⟩ := hN.at hn
  have hlt : (n : Int) < l.length := by omega
  have hbW : b < W.heap.size := Nat.lt_of_lt_of_le hb hM
  clear hN hn hcap hmx
  have HR : Hid (pK 48 l n = ((nd l n).kind == 48)) := by show pK 48 l n = ((nd l n).kind == 48); rfl
  go_enter Tryd.func73, Tryd.ntmps73
  go_wp2
  go_ret
  exact ⟨show Ending.returned (.bool ((nd l n).kind == 48)) = _ from ret_b (unhide HR).symm, Below.refl _ _⟩

set_option maxRecDepth 100000 in
theorem typeParam_ok : PlOk 62 (pK 67) := fun W M v l n hN hn hM => by
  obtain ⟨b, o, cap, ka, kc, rfl, hcap, hmx, hb, d0, d1, d2, d3, d4, _, _, _⟩ := hN.at hn
  have hlt : (n : Int) < l.length := by omega
  have hbW : b < W.heap.size := Nat.lt_of_lt_of_le hb hM
  clear hN hn hcap hmx
  have HR : Hid (pK 67 l n = ((nd l n).kind == 67)) := by show pK 67 l n = ((nd l n).kind == 67); rfl
  go_enter Tryd.func62, Tryd.ntmps62
  go_wp2
  go_ret
  exact ⟨show Ending.returned (.bool ((nd l n).kind == 67)) = _ from ret_b (unhide HR).symm, Below.refl _ _⟩

set_option maxRecDepth 100000 in
theorem typeName_ok : PlOk 87 (pK 80) := fun W M v l n hN hn hM => by
  obtain ⟨b, o, cap, ka, kc, rfl, hcap, hmx, hb, d0, d1, d2, d3, d4, _, _, _⟩ := hN.at hn
  have hlt : (n : Int) < l.length := by omega
  have hbW : b < W.heap.size := Nat.lt_of_lt_of_le hb hM
  clear hN hn hcap hmx
  have HR : Hid (pK 80 l n = ((nd l n).kind == 80)) := by show pK 80 l n = ((nd l n).kind == 80); rfl
  go_enter Tryd.func87, Tryd.ntmps87
  go_wp2
  go_ret
  exact ⟨show Ending.returned (.bool ((nd l n).kind == 80)) = _ from ret_b (unhide HR).symm, Below.refl _ _⟩

set_option maxRecDepth 100000 in
theorem typeObject_ok : PlOk 76 (pK 84) := fun W M v l n hN hn hM => by
  obtain ⟨b, o, cap, ka, kc, rfl, hcap, hmx, hb, d0, d1, d2, d3, d4, _, _, _⟩ := hN.at hn
  have hlt : (n : Int) < l.length := by omega
  have hbW : b < W.heap.size := Nat.lt_of_lt_of_le hb hM
  clear hN hn hcap hmx
  have HR : Hid (pK 84 l n = ((nd l n).kind == 84)) := by show pK 84 l n = ((nd l n).kind == 84); rfl
  go_enter Tryd.func76, Tryd.ntmps76
  go_wp2
  go_ret
  exact ⟨show Ending.returned (.bool ((nd l n).kind == 84)) = _ from ret_b (unhide HR).symm, Below.refl _ _⟩

set_option maxRecDepth 100000 in
theorem typeProp_ok : PlOk 28 (pK 85) := fun W M v l n hN hn hM => by
  obtain ⟨b, o, cap, ka, kc, rfl, hcap, hmx, hb, d0, d1, d2, d3, d4, _, _, _⟩ := hN.at hn
  have hlt : (n : Int) < l.length := by omega
  have hbW : b < W.heap.size := Nat.lt_of_lt_of_le hb hM
  clear hN hn hcap hmx
  have HR : Hid (pK 85 l n = ((nd l n).kind == 85)) := by show pK 85 l n = ((nd l n).kind == 85); rfl
  go_enter Tryd.func28, Tryd.ntmps28
  go_wp2
  go_ret
  exact ⟨show Ending.returned (.bool ((nd l n).kind == 85)) = _ from ret_b (unhide HR).symm, Below.refl _ _⟩

set_option maxRecDepth 100000 in
theorem markedParam_ok : PlOk 89 (pK 66) := fun W M v l n hN hn hM => by
  obtain ⟨b, o, cap, ka, kc, rfl, hcap, hmx, hb, d0, d1, d2, d3, d4, _, _, _⟩ := hN.at hn
  have hlt : (n : Int) < l.length := by omega
  have hbW : b < W.heap.size := Nat.lt_of_lt_of_le hb hM
  clear hN hn hcap hmx
  have HR : Hid (pK 66 l n = ((nd l n).kind == 66)) := by show pK 66 l n = ((nd l n).kind == 66); rfl
  go_enter Tryd.func89, Tryd.ntmps89
  go_wp2
  go_ret
  exact ⟨show Ending.returned (.bool ((nd l n).kind == 66)) = _ from ret_b (unhide HR).symm, Below.refl _ _⟩

set_option maxRecDepth 100000 in
theorem expr_ok : PlOk 46 pExpr := fun W M v l n hN hn hM => by
  obtain ⟨b, o, cap, ka, kc, rfl, hcap, hmx, hb, d0, d1, d2, d3, d4, _, _, _⟩ := hN.at hn
  have hlt : (n : Int) < l.length := by omega
  have hbW : b < W.heap.size := Nat.lt_of_lt_of_le hb hM
  clear hN hn hcap hmx
  go_enter Tryd.func46, Tryd.ntmps46
  go_wp2_with (go_at_call 61; refine (isExpr_any _ _).mono ?_; rintro e w2 ⟨rfl, rfl⟩)
  go_ret
  exact ⟨rfl, Below.refl _ _⟩

set_option maxRecDepth 100000 in
theorem stmt_ok : PlOk 22 pStmt := fun W M v l n hN hn hM => by
  obtain ⟨b, o, cap, ka, kc, rfl, hcap, hmx, hb, d0, d1, d2, d3, d4, _, _, _⟩ := hN.at hn
  have hlt : (n : Int) < l.length := by omega
  have hbW : b < W.heap.size := Nat.lt_of_lt_of_le hb hM
  clear hN hn hcap hmx
  go_enter Tryd.func22, Tryd.ntmps22
  go_wp2_with (go_at_call 36; refine (isStmt_any _ _).mono ?_; rintro e w2 ⟨rfl, rfl⟩)
  go_ret
  exact ⟨rfl, Below.refl _ _⟩

set_option maxRecDepth 100000 in
theorem typ_ok : PlOk 27 pTyp := fun W M v l n hN hn hM => by
  obtain ⟨b, o, cap, ka, kc, rfl, hcap, hmx, hb, d0, d1, d2, d3, d4, _, _, _⟩ := hN.at hn
  have hlt : (n : Int) < l.length := by omega
  have hbW : b < W.heap.size := Nat.lt_of_lt_of_le hb hM
  clear hN hn hcap hmx
  go_enter Tryd.func27, Tryd.ntmps27
  go_wp2_with (go_at_call 40; refine (isType_any _ _).mono ?_; rintro e w2 ⟨rfl, rfl⟩)
  go_ret
  exact ⟨rfl, Below.refl _ _⟩

set_option maxRecDepth 100000 in
theorem anyNode_ok : PlOk 21 pAny := fun W M v l n hN hn hM => by
  obtain ⟨a, cap, rfl, _, _⟩ := hN.len
  clear hN
  go_enter Tryd.func21, Tryd.ntmps21
  go_wp2
  go_ret
  exact ⟨rfl, Below.refl _ _⟩

set_option maxRecDepth 100000 in
theorem param_ok : PlOk 44 pParam := fun W M v l n hN hn hM => by
  obtain ⟨b, o, cap, ka, kc, rfl, hcap, hmx, hb, d0, d1, d2, d3, d4, _, _, _⟩ := hN.at hn
  have hlt : (n : Int) < l.length := by omega
  have hbW : b < W.heap.size := Nat.lt_of_lt_of_le hb hM
  clear hN hn hcap hmx
  by_cases hk : (nd l n).kind = 66
  · have HR : Hid (pParam l n = zo (nd l n).num) := by show pParam l n = zo (nd l n).num; simp [pParam, hk]
    go_enter Tryd.func44, Tryd.ntmps44
    go_wp2_with (go_at_call 30; refine (noneOrOptional_ok _ _).mono ?_; rintro e w2 ⟨rfl, hB⟩)
    go_ret
    exact ⟨show Ending.returned (.bool (zo (nd l n).num)) = _ from ret_b (unhide HR).symm, hB⟩
  · have hk' : ((nd l n).kind == 66) = false := by simpa using hk
    have HR : Hid (pParam l n = false) := by show pParam l n = false; simp [pParam, hk']
    clear hk
    go_enter Tryd.func44, Tryd.ntmps44
    go_wp2
    go_ret
    exact ⟨show Ending.returned (.bool false) = _ from ret_b (unhide HR).symm, Below.refl _ _⟩
end Go.Proofs.YtoffpbaddehncabDoor

/- tree.sum and strings.Clone. -/
import Derived.Shelf.Pu.Clone
import Derived.Test.YtoffpbaddehncaaGreatDoorT1
namespace Go.Proofs
open Go.Shelf
def Tryz.clone_ren : Go.Shelf.Ren := ⟨fun | 25 => 53 | n => n, fun | 37 => 81 | 47 => 82 | n => n, fun | n => n⟩
theorem Tryz.clone_lays : Go.Proofs.LaysPu.n25 Tryz.prog Tryz.clone_ren := {
  mixed := by kernel_rfl
  f25 := Tryz.func53.trans (congrArg some (by kernel_rfl))
  t0 := Tryz.underlying0
  a0 := Tryz.isAgg0
  z0 := Tryz.sizeOf0
  v0 := Tryz.zeroValue0
  i0 := by kernel_rfl
  t3 := Tryz.underlying3
  a3 := Tryz.isAgg3
  z3 := Tryz.sizeOf3
  v3 := Tryz.zeroValue3
  i3 := by kernel_rfl
  t4 := Tryz.underlying4
  a4 := Tryz.isAgg4
  z4 := Tryz.sizeOf4
  v4 := Tryz.zeroValue4
  i4 := by kernel_rfl
  t5 := Tryz.underlying5
  a5 := Tryz.isAgg5
  z5 := Tryz.sizeOf5
  v5 := Tryz.zeroValue5
  i5 := by kernel_rfl
  t9 := Tryz.underlying9
  a9 := Tryz.isAgg9
  z9 := Tryz.sizeOf9
  v9 := Tryz.zeroValue9
  i9 := by kernel_rfl
  t37 := Tryz.underlying81
  a37 := Tryz.isAgg81
  z37 := Tryz.sizeOf81
  v37 := Tryz.zeroValue81
  i37 := by kernel_rfl
  t47 := Tryz.underlying82
  a47 := Tryz.isAgg82
  z47 := Tryz.sizeOf82
  v47 := Tryz.zeroValue82
  i47 := by kernel_rfl }
end Go.Proofs
namespace Go.Proofs.YtoffpbaddehncaaGreatDoor
set_option linter.unusedSimpArgs false
set_option linter.unusedVariables false
open Go.RowKit Go.Shelf

theorem clone53 (s : ByteArray) (w : World) (h : s.size ≤ 281474976710656) : Calls Tryz.prog 53 #[.string s] w fun e w' => e = .returned (.string s) ∧ Below w.heap.size w w' :=
  AnyPu.stringslite_Clone Tryz.clone_lays s w h
set_option maxRecDepth 100000 in
set_option maxHeartbeats 1000000 in
theorem clone43 (s : ByteArray) (w : World) (h : s.size ≤ 281474976710656) : Calls Tryz.prog 43 #[.string s] w fun e w' => e = .returned (.string s) ∧ Below w.heap.size w w' := by
  have hh := hide h
  clear h
  go_enter Tryz.func43, Tryz.ntmps43
  go_wp2_with (go_at_call 53; refine (clone53 s _ (unhide hh)).mono ?_; rintro e w1 ⟨rfl, hb⟩)
  go_ret
  exact ⟨rfl, hb⟩

/-- A kid's number moved along. -/
def sumP (k by' : Int) : Int := if by' > 0 ∧ k > 9223372036854775807 - by' then 9223372036854775807 else wrap64 (k + by')
set_option maxRecDepth 100000 in
set_option maxHeartbeats 1000000 in
theorem sum_any (k by' : Int) (hb : -9223372036854775808 ≤ by' ∧ by' ≤ 9223372036854775807) (W : World) : Calls Tryz.prog 52 #[.int .i64 k, .int .i64 by'] W fun e w' => e = .returned (.int .i64 (sumP k by')) ∧ w' = W := by
  by_cases h1 : 0 < by'
  · by_cases h2 : 9223372036854775807 - by' < k
    · have HR : Hid (sumP k by' = 9223372036854775807) := by show sumP k by' = _; simp only [sumP]; rw [if_pos ⟨h1, h2⟩]
      rw [unhide HR]
      go_enter Tryz.func52, Tryz.ntmps52
      go_wp2
      go_ret
      exact ⟨rfl, rfl⟩
    · have h2' : decide (9223372036854775807 - by' < k) = false := by simpa using h2
      have HR : Hid (sumP k by' = wrap64 (k + by')) := by show sumP k by' = _; simp only [sumP]; rw [if_neg (by omega)]
      rw [unhide HR]
      go_enter Tryz.func52, Tryz.ntmps52
      go_wp2
      go_ret
      exact ⟨rfl, rfl⟩
  · have h1' : decide (0 < by') = false := by simpa using h1
    have HR : Hid (sumP k by' = wrap64 (k + by')) := by show sumP k by' = _; simp only [sumP]; rw [if_neg (by omega)]
    rw [unhide HR]
    go_enter Tryz.func52, Tryz.ntmps52
    go_wp2
    go_ret
    exact ⟨rfl, rfl⟩
end Go.Proofs.YtoffpbaddehncaaGreatDoor

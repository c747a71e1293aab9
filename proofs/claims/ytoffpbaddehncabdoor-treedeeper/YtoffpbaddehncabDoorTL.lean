/- tree.sum and strings.Clone. -/
import Derived.Shelf.Pu.Clone
import Derived.Test.YtoffpbaddehncabDoorT1
namespace Go.Proofs
open Go.Shelf
def Tryd.clone_ren : Go.Shelf.Ren := ⟨fun | 25 => 20 | n => n, fun | 37 => 58 | 47 => 59 | n => n, fun | n => n⟩
theorem Tryd.clone_lays : Go.Proofs.LaysPu.n25 Tryd.prog Tryd.clone_ren := {
  mixed := by kernel_rfl
  f25 := Tryd.func20.trans (congrArg some (by kernel_rfl))
  t0 := Tryd.underlying0
  a0 := Tryd.isAgg0
  z0 := Tryd.sizeOf0
  v0 := Tryd.zeroValue0
  i0 := by kernel_rfl
  t3 := Tryd.underlying3
  a3 := Tryd.isAgg3
  z3 := Tryd.sizeOf3
  v3 := Tryd.zeroValue3
  i3 := by kernel_rfl
  t4 := Tryd.underlying4
  a4 := Tryd.isAgg4
  z4 := Tryd.sizeOf4
  v4 := Tryd.zeroValue4
  i4 := by kernel_rfl
  t5 := Tryd.underlying5
  a5 := Tryd.isAgg5
  z5 := Tryd.sizeOf5
  v5 := Tryd.zeroValue5
  i5 := by kernel_rfl
  t9 := Tryd.underlying9
  a9 := Tryd.isAgg9
  z9 := Tryd.sizeOf9
  v9 := Tryd.zeroValue9
  i9 := by kernel_rfl
  t37 := Tryd.underlying58
  a37 := Tryd.isAgg58
  z37 := Tryd.sizeOf58
  v37 := Tryd.zeroValue58
  i37 := by kernel_rfl
  t47 := Tryd.underlying59
  a47 := Tryd.isAgg59
  z47 := Tryd.sizeOf59
  v47 := Tryd.zeroValue59
  i47 := by kernel_rfl }
end Go.Proofs
namespace Go.Proofs.YtoffpbaddehncabDoor
set_option linter.unusedSimpArgs false
set_option linter.unusedVariables false
open Go.RowKit Go.Shelf

theorem clone53 (s : ByteArray) (w : World) (h : s.size ≤ 281474976710656) : Calls Tryd.prog 20 #[.string s] w fun e w' => e = .returned (.string s) ∧ Below w.heap.size w w' :=
  AnyPu.stringslite_Clone Tryd.clone_lays s w h
set_option maxRecDepth 100000 in
set_option maxHeartbeats 1000000 in
theorem clone43 (s : ByteArray) (w : World) (h : s.size ≤ 281474976710656) : Calls Tryd.prog 12 #[.string s] w fun e w' => e = .returned (.string s) ∧ Below w.heap.size w w' := by
  have hh := hide h
  clear h
  go_enter Tryd.func12, Tryd.ntmps12
  go_wp2_with (go_at_call 20; refine (clone53 s _ (unhide hh)).mono ?_; rintro e w1 ⟨rfl, hb⟩)
  go_ret
  exact ⟨rfl, hb⟩

/-- A kid's number moved along. -/
def sumP (k by' : Int) : Int := if by' > 0 ∧ k > 9223372036854775807 - by' then 9223372036854775807 else wrap64 (k + by')
set_option maxRecDepth 100000 in
set_option maxHeartbeats 1000000 in
theorem sum_any (k by' : Int) (hb : -9223372036854775808 ≤ by' ∧ by' ≤ 9223372036854775807) (W : World) : Calls Tryd.prog 19 #[.int .i64 k, .int .i64 by'] W fun e w' => e = .returned (.int .i64 (sumP k by')) ∧ w' = W := by
  by_cases h1 : 0 < by'
  · by_cases h2 : 9223372036854775807 - by' < k
    · have HR : Hid (sumP k by' = 9223372036854775807) := by show sumP k by' = _; simp only [sumP]; rw [if_pos ⟨h1, h2⟩]
      rw [unhide HR]
      go_enter Tryd.func19, Tryd.ntmps19
      go_wp2
      go_ret
      exact ⟨rfl, rfl⟩
    · have h2' : decide (9223372036854775807 - by' < k) = false := by simpa using h2
      have HR : Hid (sumP k by' = wrap64 (k + by')) := by show sumP k by' = _; simp only [sumP]; rw [if_neg (by omega)]
      rw [unhide HR]
      go_enter Tryd.func19, Tryd.ntmps19
      go_wp2
      go_ret
      exact ⟨rfl, rfl⟩
  · have h1' : decide (0 < by') = false := by simpa using h1
    have HR : Hid (sumP k by' = wrap64 (k + by')) := by show sumP k by' = _; simp only [sumP]; rw [if_neg (by omega)]
    rw [unhide HR]
    go_enter Tryd.func19, Tryd.ntmps19
    go_wp2
    go_ret
    exact ⟨rfl, rfl⟩
end Go.Proofs.YtoffpbaddehncabDoor

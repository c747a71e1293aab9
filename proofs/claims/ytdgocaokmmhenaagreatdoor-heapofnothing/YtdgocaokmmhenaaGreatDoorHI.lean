/- What Show goes through: an object with one member. -/
import Derived.RangeFuncNested
import Derived.RangeFuncBound
import Derived.RangeFuncCalls
import Derived.RangeFuncLeaves
import Derived.OwnWalkIn
import Derived.TacticsInMore
import Derived.LoopNIn
import Derived.LoopIn
import Derived.Test.YtdgocaokmmhenaaGreatDoorXR
import Derived.Test.YtdgocaokmmhenaaGreatDoorHF
import Derived.Test.YtdgocaokmmhenaaGreatDoorHH
namespace Go.Proofs.YtdgocaokmmhenaaGreatDoor
set_option linter.unusedSimpArgs false
set_option linter.unusedVariables false
set_option maxRecDepth 100000
set_option maxHeartbeats 1000000
open Go.RowKit Go.Shelf

theorem look_run1 {W : World} {l : Ly} {i : Nat} {t : Th} {m : Nat} {kv : Value} (h : ObAt W l i t (some m) kv) (s : ByteArray) (hs : s.size ≤ maxLen) : (Instr.lookup 119 (.map (some m)) (.string s) false).run Tryz.prog W = .ok ((look t.slots s).getD PV.und).agg W := by
  obtain ⟨⟨D, ho, hD⟩, _⟩ := h.map m rfl
  obtain ⟨v, ps, hrun, hv⟩ := ho.lookup law9 Tryz.underlying119 (zero32 W) vElem_zero (key9 hs)
  rw [hrun]
  congr 1
  cases hl : look t.slots s with
  | none =>
    have : Maps.has D (keyL s) = false := by rw [hD.has, hl]; rfl
    rw [Maps.atKey_of_not_has this] at hv
    rw [vElem_inv hv]; rfl
  | some x =>
    rw [hD.at' s x hl] at hv
    rw [vElem_inv hv]; rfl
/-- The function value that each hands back. -/
theorem each_any (b : Nat) (W : World) : Calls Tryz.prog 120 #[ptr b] W fun e w' => e = .returned (.func (.func 123) #[] #[ptr W.heap.size]) ∧ Bx w' W.heap.size #[ptr b] 70 ∧ Below W.heap.size W w' := by
  have h1 := Bx.new W #[ptr b] 70
  have HB := hide (below_one W (.cells #[ptr b] 70))
  have H1 := hide h1
  unfold ptr at HB H1 ⊢
  clear h1
  go_enter Tryz.func120, Tryz.ntmps120
  go_wp2
  go_ret
  exact ⟨rfl, unhide H1, unhide HB⟩
theorem enter89 : ∀ args w, (callFunc 123 args).run Tryz.prog w = .ok (.enter 123 args) w := enters_of Tryz.func123 (by kernel_rfl) rfl
/-- It hands one member over. -/
theorem each_one (n : Nat) (hn : 1 ≤ n) (lp Bo b g cap m : Nat) (W : World) (R : World → Prop) (hbo : W.cell? ⟨Bo, 0, none⟩ = some (.pointer (some ⟨b, 0, none⟩))) (c2 : W.cell? ⟨b, 2, none⟩ = some (.slice (some ⟨g, 0, none⟩) 1 cap)) (ck : W.cell? ⟨g, 0, none⟩ = some (.string ⟨#[97]⟩)) (c1 : W.cell? ⟨b, 1, none⟩ = some (.map (some m)))
    (hrun : (Instr.lookup 119 (.map (some m)) (.string ⟨#[97]⟩) false).run Tryz.prog W = .ok (.agg #[.int .i64 3, .int .i64 3, .string ByteArray.empty]) W)
    (hY : YieldAt Fence.wide (n - 1) Tryz.prog lp #[.string (⟨#[97]⟩ ++ ⟨#[58, 32]⟩), .agg #[.int .i64 3, .int .i64 3, .string ByteArray.empty]] W fun e A' => e = .returned (.bool true) ∧ R A') :
    CallsIn Fence.wide n Tryz.prog 123 #[.func (.yield lp) #[] #[], .pointer (some ⟨Bo, 0, none⟩)] W fun e W' => e = .returned (.tuple #[]) ∧ R W' := by
  have HY := hide hY
  clear hY
  refine callsIn_of_wp Tryz.func123 rfl trivial ?_ rfl
  simp only [Tryz.ntmps123, List.size_toArray, List.length_cons, List.length_nil, Nat.reduceAdd, Nat.reduceSub, Array.replicate_succ, Array.replicate_zero, List.push_toArray, List.append_toArray, List.nil_append, List.cons_append]
  gi_wp2
  gi_loopw [10] (fun t wr => (t = .int .i64 0 ∧ wr = W) ∨ (t = .int .i64 1 ∧ R wr)) (fun t _ => 1 - (intOf t).toNat)
  case atStart => exact .inl ⟨rfl, rfl⟩
  case round =>
    rcases hrel with ⟨rfl, rfl⟩ | ⟨rfl, hr⟩
    · obtain ⟨fn, tm, asg, bd, hy, hRd⟩ := unhide HY
      have HRD := hide hRd
      clear hRd
      gi_wp2
      refine (unhide HRD).mono ?_
      rintro x W6 ⟨rfl, hr⟩
      have HR6 := hide hr
      clear hr HRD hy hrun
      gi_wp2
      exact ⟨.inr ⟨rfl, unhide HR6⟩, by simp [intOf]⟩
    · have HR := hide hr
      clear hr
      gi_wp2
      exact bodyPost_end (by simp [results, Tryz.results123, go_sem]) rfl ⟨rfl, unhide HR⟩
end Go.Proofs.YtdgocaokmmhenaaGreatDoor

/- tree.behind, over a tree that Check takes. -/
import Derived.LoopN
import Derived.BigQuiet
import Derived.Test.YtoffpbaddehncaaGreatDoorVP
namespace Go.Proofs.YtoffpbaddehncaaGreatDoor
set_option linter.unusedSimpArgs false
set_option linter.unusedVariables false
open Go.RowKit Go.Shelf

set_option maxRecDepth 100000 in
set_option maxHeartbeats 2000000 in
theorem behind_any (W : World) (M : Nat) (v : Value) (l : List Nd) (n : Nat) (hN : Nodes W M v l) (hM : M ≤ W.heap.size) (hf : Fine l n) :
    Calls Tryz.prog 41 #[v, .int .i64 (n : Int)] W fun e w' => e = .returned (.int .i64 (en l n : Int)) ∧ Below W.heap.size W w' := by
  have HN := hide hN
  have hl1 := hN.1
  obtain ⟨a, cap, rfl, _, _⟩ := hN.len
  clear hN
  have HF := hide hf
  have hnl := hf.1
  clear hf
  go_enter Tryz.func41, Tryz.ntmps41
  go_wp2
  go_loopw [1] (fun t wr => ∃ m : Nat, t = .int .i64 (m : Int) ∧ m < l.length ∧ Fine l m ∧ en l m = en l n ∧ Below W.heap.size W wr) (fun t _ => l.length - (intOf t).toNat)
  case atStart => exact ⟨n, rfl, hnl, unhide HF, rfl, Below.refl _ _⟩
  case round =>
    obtain ⟨m, rfl, hml, hfm, hen, hB⟩ := hrel
    obtain ⟨b, o, cap0, ka, kc, hv, _, _, hb, d0, d1, d2, d3, d4, hkc, hkm, hK⟩ := ((unhide HN).keep hB hM).at hml
    cases hv
    have hml' : (m : Int) < l.length := by omega
    have hm0 : (0 : Int) ≤ (m : Int) := by omega
    have hbl : b < wr.heap.size := by have := hB.size; omega
    have hkl := ((unhide HN).2.1 m hml).2
    clear d0 d1 d2 d4
    cases hy : (nd l m).kids.length with
    | zero =>
      have hk0 : (nd l m).kids = [] := List.length_eq_zero_iff.1 hy
      have HE : Hid (en l n = m + 1) := hen.symm.trans (hfm.leaf hk0)
      rw [hy] at d3
      clear hk0 hy hen hfm hK
      go_wp2
      go_ret
      exact ⟨by rw [unhide HE]; go_num, hB⟩
    | succ y =>
      obtain ⟨q, hq, hfq, hlt, heq⟩ := hfm.last (by omega)
      rw [hy] at d3 hkl hkc
      rcases hK with h | ⟨kb, ko, rfl, hkb, hkc0⟩
      · rw [h] at hy; cases hy
      have dk := hkc0 y (by omega)
      rw [hy, Nat.add_sub_cancel] at hq
      rw [hq] at dk
      have hkl2 : kb < wr.heap.size := by have := hB.size; omega
      have HFQ := hide hfq
      have HEQ : Hid (en l q = en l n) := heq.trans hen
      have hql := hfq.1
      clear hkc0 hq hy hfm hen heq hfq
      go_wp2
      go_quiet (fail)
      go_wp2
      refine ⟨⟨q, rfl, hql, unhide HFQ, unhide HEQ, below_drewN hB _⟩, by simp [intOf]; omega⟩
end Go.Proofs.YtoffpbaddehncaaGreatDoor

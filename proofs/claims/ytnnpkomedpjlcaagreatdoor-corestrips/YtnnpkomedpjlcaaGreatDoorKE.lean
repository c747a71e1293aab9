/- core's within: what an As or a Bang is about. -/
import Derived.LoopN
import Derived.Test.YtnnpkomedpjlcaaGreatDoorKD
namespace Go.Proofs.YtnnpkomedpjlcaaGreatDoor
set_option linter.unusedSimpArgs false
set_option linter.unusedVariables false
open Go.RowKit

/-- The node that an As, a Bang, one in the other or not, is about. -/
def innF (l : List Nd) : Nat → Nat → Nat
  | 0, n => n
  | f + 1, n => if (nd l n).kind = 33 ∨ (nd l n).kind = 34 then innF l f (n + 1) else n
def inn (l : List Nd) (n : Nat) : Nat := innF l (l.length - n) n
theorem kid_first {l : List Nd} {n : Nat} (hf : Fine l n) (hk : 0 < (nd l n).kids.length) : (nd l n).kids.getD 0 0 = ((n + 1 : Nat) : Int) := by
  obtain ⟨h0, h1⟩ := chain_stp (nd l n).kids (n + 1) (en l n) hf.chain
  have := (h1 0 hk).1
  rw [this, h0]
theorem about_kid {l : List Nd} {n : Nat} (hf : fitP l n = true) (hk : (nd l n).kind = 33 ∨ (nd l n).kind = 34) : 0 < (nd l n).kids.length := by
  rcases hk with h | h
  · have := fit_kz hf (by rw [h]; rfl) rfl; exact kz_len1 this
  · have := fit_kz hf (by rw [h]; rfl) rfl; exact kz_len1 this
theorem about_in {l : List Nd} {n : Nat} (hc : (chkP l).2 = 0) (hn : n < l.length) (hk : (nd l n).kind = 33 ∨ (nd l n).kind = 34) : n + 1 < l.length := by
  have hf := chk_all hc hn
  have h1 := kid_first hf (about_kid hf.fit hk)
  have h2 := hf.ins ((nd l n).kids.getD 0 0) (by rw [List.getD_eq_getElem?_getD, List.getElem?_eq_getElem (about_kid hf.fit hk)]; exact List.getElem_mem _)
  rw [h1] at h2
  have := (ins_iff'.1 h2).2
  omega
theorem inn_go {l : List Nd} {n : Nat} (hn : n < l.length) (hk : (nd l n).kind = 33 ∨ (nd l n).kind = 34) : inn l n = inn l (n + 1) := by
  unfold inn
  have e : l.length - n = (l.length - (n + 1)) + 1 := by omega
  rw [e, innF, if_pos hk]
theorem inn_stop {l : List Nd} {n : Nat} (hk : ¬ ((nd l n).kind = 33 ∨ (nd l n).kind = 34)) : inn l n = n := by
  unfold inn
  cases h : l.length - n with
  | zero => rfl
  | succ f => rw [innF, if_neg hk]

set_option maxRecDepth 100000 in
set_option maxHeartbeats 4000000 in
theorem about_any (W : World) (M S : Nat) (v : Value) (l : List Nd) (n : Nat) (hN : Nodes W M v l) (hM : M ≤ W.heap.size) (hc : (chkP l).2 = 0) (hn : n < l.length) (hS : W.cell? ⟨S, 0, none⟩ = some v) (hSl : S < W.heap.size) :
    Calls Tryz.prog 41 #[.pointer (some ⟨S, 0, none⟩), .int .i64 (n : Int)] W fun e w' => e = .returned (.int .i64 (inn l n : Int)) ∧ w' = W := by
  have HN := hide hN
  have hl1 := hN.1
  have HC := hide hc
  obtain ⟨va, vc, rfl, _, _⟩ := hN.len
  clear hN hc
  go_enter Tryz.func41, Tryz.ntmps41
  go_wp2
  go_loopw [1] (fun t wr => ∃ m : Nat, m < l.length ∧ t = .int .i64 (m : Int) ∧ inn l m = inn l n ∧ wr = W) (fun t _ => l.length - (intOf t).toNat)
  case atStart => exact ⟨n, hn, rfl, rfl, rfl⟩
  case round =>
    obtain ⟨m, hm, rfl, hin, rfl⟩ := hrel
    obtain ⟨b, o, cap, ka, kc, hv, hc1, hc2, hb, d0, d1, d2, d3, d4, hkc, hkm, hK⟩ := (unhide HN).at hm
    cases hv
    have t1 : (m : Int) < l.length := by omega
    have t2 : (0 : Int) ≤ (m : Int) := by omega
    have t3 : b < wr.heap.size := by omega
    by_cases hk : (nd l m).kind = 33 ∨ (nd l m).kind = 34
    · have hf := chk_all (unhide HC) hm
      have hk0 := about_kid hf.fit hk
      have hm1 := about_in (unhide HC) hm hk
      have HI : Hid (inn l (m + 1) = inn l n) := (inn_go hm hk).symm.trans hin
      rcases hK with h | ⟨kb, ko, rfl, hkb, hkc0⟩
      · rw [h] at hk0; simp at hk0
      have dk := hkc0 0 hk0
      rw [kid_first hf hk0, Nat.add_zero] at dk
      obtain ⟨kl, hkl⟩ : ∃ kl, (nd l m).kids.length = kl := ⟨_, rfl⟩
      rw [hkl] at d3 hk0
      have t4 : (0 : Int) < (kl : Int) := by omega
      have t7 : kb < wr.heap.size := by omega
      clear hf hkc0 d1 d2 d4 hin hkc hkm hkl
      rcases hk with hk | hk
      · rw [hk] at d0
        go_wp2
        exact ⟨⟨m + 1, hm1, by go_num, unhide HI, trivial⟩, by simp [intOf]; omega⟩
      · rw [hk] at d0
        go_wp2
        exact ⟨⟨m + 1, hm1, by go_num, unhide HI, trivial⟩, by simp [intOf]; omega⟩
    · have HI : Hid (inn l n = m) := hin.symm.trans (inn_stop hk)
      obtain ⟨x, hx⟩ : ∃ x, (nd l m).kind = x := ⟨_, rfl⟩
      rw [hx] at d0 hk
      have q1 : (x == 33) = false := beq_eq_false_iff_ne.2 (fun e => hk (.inl e))
      have q2 : (x == 34) = false := beq_eq_false_iff_ne.2 (fun e => hk (.inr e))
      clear hk hin d1 d2 d3 d4 hK hx
      go_wp2
      go_ret
      exact ⟨by rw [unhide HI]; rfl, rfl⟩
end Go.Proofs.YtnnpkomedpjlcaaGreatDoor

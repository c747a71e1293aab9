/- tree.within and tree.list under any place. -/
import Derived.LoopN
import Derived.Test.YtnnpkomedpjlcaaGreatDoorT4
namespace Go.Proofs.YtnnpkomedpjlcaaGreatDoor
set_option linter.unusedSimpArgs false
set_option linter.unusedVariables false
open Go.RowKit

set_option maxRecDepth 100000 in
theorem within_any (W : World) (a : Option Addr) (len cap : Nat) (hlen : len ≤ 2199023255552) (k : Int) : Calls Tryz.prog 73 #[.slice a len cap, .int .i64 k] W fun e w' => e = .returned (.bool (decide (0 ≤ k) && decide (k < (len : Int)))) ∧ w' = W := by
  by_cases h1 : 0 ≤ k
  · have a1 : decide (0 ≤ k) = true := by simpa using h1
    have HR : Hid ((decide (0 ≤ k) && decide (k < (len : Int))) = decide (k < (len : Int))) := by show (decide (0 ≤ k) && decide (k < (len : Int))) = decide (k < (len : Int)); rw [a1]; rfl
    go_enter Tryz.func73, Tryz.ntmps73
    go_wp2
    go_ret
    exact ⟨show Ending.returned (.bool (decide (k < (len : Int)))) = _ from ret_b (unhide HR).symm, rfl⟩
  · have a1 : decide (0 ≤ k) = false := by simpa using h1
    have HR : Hid ((decide (0 ≤ k) && decide (k < (len : Int))) = false) := by show (decide (0 ≤ k) && decide (k < (len : Int))) = false; rw [a1]; rfl
    go_enter Tryz.func73, Tryz.ntmps73
    go_wp2
    go_ret
    first | exact ⟨rfl, rfl⟩ | exact ⟨show Ending.returned (.bool false) = _ from ret_b (unhide HR).symm, rfl⟩
theorem within_ok {W : World} {M : Nat} {v : Value} {l : List Nd} (hN : Nodes W M v l) (k : Int) : Calls Tryz.prog 73 #[v, .int .i64 k] W fun e w' => e = .returned (.bool (ins l k)) ∧ w' = W := by
  obtain ⟨a, cap, rfl, _, _⟩ := hN.len
  exact within_any W a l.length cap hN.1 k

/-- Up to a kid all kids were taken. -/
def upK (l : List Nd) (ks : List Int) (q : Nat → Bool) : Nat → Bool
  | 0 => true
  | i + 1 => upK l ks q i && (ins l (ks.getD i 0) && q i)

theorem upK_le {l : List Nd} {ks : List Int} {q : Nat → Bool} {i : Nat} (h : upK l ks q i = false) : ∀ {j}, i ≤ j → upK l ks q j = false
  | 0, hj => by obtain rfl : i = 0 := by omega
                exact h
  | j + 1, hj => by
    by_cases e : i = j + 1
    · subst e; exact h
    · show (upK l ks q j && _) = false
      rw [upK_le h (by omega)]; rfl
theorem upK_false {l : List Nd} {ks : List Int} {q : Nat → Bool} {i n : Nat} (hi : i < n) (h : (ins l (ks.getD i 0) && q i) = false) : upK l ks q n = false :=
  upK_le (i := i + 1) (by show (upK l ks q i && _) = false; rw [h]; simp) hi

set_option maxRecDepth 100000 in
set_option maxHeartbeats 1000000 in
theorem list_gen (f : Nat) (caps : Array Value) (ey : ∀ args w, (callFunc f args).run Tryz.prog w = .ok (.enter f args) w) (W : World) (M M' : Nat) (v : Value) (l : List Nd) (n : Nat) (hN : Nodes W M v l) (hn : n < l.length) (hMM : M ≤ M') (hM : M' ≤ W.heap.size)
    (J : Nat → World → Prop) (q : Nat → Bool) (h0 : J 0 W) (hlen : (nd l n).kids.length ≤ 17592186044416)
    (hY : ∀ i A, i < (nd l n).kids.length → J i A → Below M' W A → ins l ((nd l n).kids.getD i 0) = true → Calls Tryz.prog f (#[v, .int .i64 ((nd l n).kids.getD i 0)] ++ caps) A fun e A' => e = .returned (.bool (q i)) ∧ Below M' A A' ∧ (q i = true → J (i + 1) A')) :
    Calls Tryz.prog 84 #[v, .int .i64 (n : Int), .func (.func f) #[] caps] W fun e w' => e = .returned (.bool ((nd l n).kind == 2 && upK l (nd l n).kids q (nd l n).kids.length)) ∧ Below M' W w' := by
  have HN := hide hN
  obtain ⟨b, o, cap, ka, kc, rfl, hcap, hmx, hb, d0, d1, d2, d3, d4, hkc, hkm, hK⟩ := hN.at hn
  have hlt : (n : Int) < l.length := by omega
  have hbW : b < W.heap.size := Nat.lt_of_lt_of_le hb (Nat.le_trans hMM hM)
  obtain ⟨ks, hks⟩ : ∃ ks, (nd l n).kids = ks := ⟨_, rfl⟩
  rw [hks] at d3 hK hlen hY ⊢
  clear hks
  have HY := hide hY
  have HK := hide hK
  have H0 := hide h0
  clear hN hn hcap hmx hY h0 hkc hkm hK
  cases hk : ((nd l n).kind == 2) with
  | false =>
    have hk' : ((nd l n).kind != 2) = true := by simp only [bne, hk]; rfl
    go_enter Tryz.func84, Tryz.ntmps84
    go_wp2
    go_ret
    exact ⟨rfl, Below.refl _ _⟩
  | true =>
    have hk' : ((nd l n).kind != 2) = false := by simp only [bne, hk]; rfl
    go_enter Tryz.func84, Tryz.ntmps84
    go_wp2
    go_loopw [21] (fun t wr => ∃ i : Nat, i ≤ ks.length ∧ t = .int .i64 (i : Int) ∧ upK l ks q i = true ∧ J i wr ∧ Below M' W wr) (fun t _ => ks.length - (intOf t).toNat)
    case atStart => exact ⟨0, Nat.zero_le _, rfl, rfl, unhide H0, Below.refl _ _⟩
    case round =>
      obtain ⟨i, hi, rfl, hu, hJ, hB⟩ := hrel
      have HJ := hide hJ
      have HU := hide hu
      clear hJ hu
      by_cases hil : i < ks.length
      · have hil' : (i : Int) < ks.length := by omega
        have hkk := unhide HK
        rcases hkk with hkk | ⟨kb, ko, rfl, hkb, hkc⟩
        · subst hkk; simp at hil
        have dk := (hB.cell (p := ⟨kb, ko + i, none⟩) (Nat.lt_of_lt_of_le hkb hMM)).trans (hkc i hil)
        clear hkc
        obtain ⟨k, hkv⟩ : ∃ k, ks.getD i 0 = k := ⟨_, rfl⟩
        have HC0 := unhide HY i wr hil (unhide HJ) hB
        rw [hkv] at dk HC0
        have HKV := hide hkv
        have HC := hide HC0
        have HIL := hide hil
        clear hkv HC0 HY
        cases hins : ins l k with
        | false =>
          have HF : Hid (upK l ks q ks.length = false) := upK_false (unhide HIL) (by rw [unhide HKV, hins]; rfl)
          go_wp2_with (go_at_call 73; refine (within_ok ((unhide HN).keep hB hMM) _).mono ?_; rintro e w2 ⟨rfl, rfl⟩)
          go_ret
          exact ⟨ret_b (unhide HF).symm, hB⟩
        | true =>
          cases hq : q i with
          | false =>
            have HF : Hid (upK l ks q ks.length = false) := upK_false (unhide HIL) (by rw [unhide HKV, hins, hq]; rfl)
            have HINS := hide hins
            have HQ := hide hq
            clear hq
            go_wp2_with (first | (go_at_call 73; refine (within_ok ((unhide HN).keep hB hMM) _).mono ?_; rintro e w2 ⟨rfl, rfl⟩) | (refine (unhide HC (unhide HINS)).mono ?_; rintro e w3 ⟨he, hB3, hJ3⟩; rw [unhide HQ] at he; subst he))
            go_ret
            exact ⟨ret_b (unhide HF).symm, hB.trans hB3⟩
          | true =>
            have HUU : Hid (upK l ks q (i + 1) = true) := by show (upK l ks q i && (ins l (ks.getD i 0) && q i)) = true; rw [unhide HU, unhide HKV, hins, hq]; rfl
            have HINS := hide hins
            have HQ := hide hq
            clear hq
            go_wp2_with (first | (go_at_call 73; refine (within_ok ((unhide HN).keep hB hMM) _).mono ?_; rintro e w2 ⟨rfl, rfl⟩) | (refine (unhide HC (unhide HINS)).mono ?_; rintro e w3 ⟨he, hB3, hJ3⟩; rw [unhide HQ] at he; subst he; have HJ3 := hide hJ3; clear hJ3))
            refine ⟨⟨i + 1, by omega, by go_num, unhide HUU, unhide HJ3 (unhide HQ), hB.trans hB3⟩, by simp [intOf]; omega⟩
      · have hil' : ¬ (i : Int) < ks.length := by omega
        obtain rfl : i = ks.length := by omega
        go_wp2
        go_ret
        exact ⟨show Ending.returned (.bool true) = _ from ret_b (unhide HU).symm, hB⟩
end Go.Proofs.YtnnpkomedpjlcaaGreatDoor

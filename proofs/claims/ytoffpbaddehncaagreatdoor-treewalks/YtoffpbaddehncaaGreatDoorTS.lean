/- slices.Equal over kids. -/
import Derived.LoopN
import Derived.BigQuiet
import Derived.WalkSmall
import Derived.Test.YtoffpbaddehncaaGreatDoorT1
namespace Go.Proofs.YtoffpbaddehncaaGreatDoor
set_option linter.unusedSimpArgs false
set_option linter.unusedVariables false
open Go.RowKit

theorem getD_len_eq {x y : List Int} (hl : x.length = y.length) (h : ∀ j, j < x.length → x.getD j 0 = y.getD j 0) : x = y := by
  refine List.ext_getElem hl fun j h1 h2 => ?_
  have := h j h1
  simpa [List.getD_eq_getElem?_getD, List.getElem?_eq_getElem h1, List.getElem?_eq_getElem h2] using this

set_option maxRecDepth 100000 in
set_option maxHeartbeats 1000000 in
theorem kidsEq_any (W : World) (M : Nat) (a1 a2 : Option Addr) (x y : List Int) (c1 c2 : Nat) (h1 : KidsAt W M a1 x) (h2 : KidsAt W M a2 y) (hl1 : x.length ≤ 17592186044416) (hl2 : y.length ≤ 17592186044416) (hM : M ≤ W.heap.size) :
    Calls Tryz.prog 45 #[.slice a1 x.length c1, .slice a2 y.length c2] W fun e w' => e = .returned (.bool (decide (x = y))) ∧ Below W.heap.size W w' := by
  by_cases hl : x.length = y.length
  · have hl' : (x.length : Int) = y.length := by omega
    have HL := hide hl
    have H1 := hide h1
    have H2 := hide h2
    clear h1 h2
    have hne : (((x.length : Nat) : Int) != ((y.length : Nat) : Int)) = false := by simp [hl]
    go_enter Tryz.func45, Tryz.ntmps45
    go_wp2
    go_loopw [13] (fun t wr => ∃ i : Nat, i ≤ x.length ∧ t = .int .i64 (i : Int) ∧ (∀ j, j < i → x.getD j 0 = y.getD j 0) ∧ Below W.heap.size W wr) (fun t _ => x.length - (intOf t).toNat)
    case atStart => exact ⟨0, Nat.zero_le _, rfl, fun j h => by omega, Below.refl _ _⟩
    case round =>
      obtain ⟨i, hi, rfl, hu, hB⟩ := hrel
      have HU := hide hu
      clear hu
      by_cases hil : i < x.length
      · have hil' : (i : Int) < x.length := by omega
        have hil2 : (i : Int) < y.length := by omega
        have hk1 := unhide H1
        have hk2 := unhide H2
        rcases hk1 with hk1 | ⟨b1, o1, rfl, hb1, hk1⟩
        · subst hk1; simp at hil
        rcases hk2 with hk2 | ⟨b2, o2, rfl, hb2, hk2⟩
        · subst hk2; simp at hil2; omega
        have d1 := (hB.cell (p := ⟨b1, o1 + i, none⟩) (Nat.lt_of_lt_of_le hb1 hM)).trans (hk1 i hil)
        have d2 := (hB.cell (p := ⟨b2, o2 + i, none⟩) (Nat.lt_of_lt_of_le hb2 hM)).trans (hk2 i (by omega))
        clear hk1 hk2
        obtain ⟨k1, hk1⟩ : ∃ k, x.getD i 0 = k := ⟨_, rfl⟩
        obtain ⟨k2, hk2⟩ : ∃ k, y.getD i 0 = k := ⟨_, rfl⟩
        rw [hk1] at d1
        rw [hk2] at d2
        have HK1 := hide hk1
        have HK2 := hide hk2
        have HIL := hide hil
        clear hk1 hk2
        by_cases hkk : k1 = k2
        · have hkk' : (k1 != k2) = false := by simp [hkk]
          have HKK := hide hkk
          clear hkk
          go_wp2
          go_quiet (fail)
          go_wp2
          refine ⟨⟨i + 1, by omega, by go_num, fun j hj => ?_, (below_drewN hB _)⟩, by simp [intOf]; omega⟩
          by_cases hji : j = i
          · subst hji; rw [unhide HK1, unhide HK2, unhide HKK]
          · exact unhide HU j (by omega)
        · have hkk' : (k1 != k2) = true := by simp [hkk]
          have HF : Hid (decide (x = y) = false) := by
            show decide (x = y) = false
            refine decide_eq_false fun e => hkk ?_
            rw [← unhide HK1, ← unhide HK2, e]
          clear hkk
          go_wp2
          go_quiet (fail)
          go_wp2
          go_ret
          exact ⟨ret_b (unhide HF).symm, (below_drewN hB _)⟩
      · have hil' : ¬ (i : Int) < x.length := by omega
        obtain rfl : i = x.length := by omega
        have HF : Hid (decide (x = y) = true) := decide_eq_true (getD_len_eq (unhide HL) (unhide HU))
        go_wp2
        go_ret
        exact ⟨show Ending.returned (.bool true) = _ from ret_b (unhide HF).symm, hB⟩
  · have hne : (((x.length : Nat) : Int) != ((y.length : Nat) : Int)) = true := by simp; omega
    have HF : Hid (decide (x = y) = false) := decide_eq_false fun e => hl (by rw [e])
    clear hl h1 h2
    go_enter Tryz.func45, Tryz.ntmps45
    go_wp2
    go_ret
    exact ⟨show Ending.returned (.bool false) = _ from ret_b (unhide HF).symm, Below.refl _ _⟩
end Go.Proofs.YtoffpbaddehncaaGreatDoor

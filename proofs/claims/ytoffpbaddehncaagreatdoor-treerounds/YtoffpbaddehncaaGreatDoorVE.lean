/- The law TreeRounds over whatever a call can reach. -/
import Derived.LoopN
import Derived.BigQuiet
import Derived.Test.YtoffpbaddehncaaGreatDoorVD
namespace Go.Proofs.YtoffpbaddehncaaGreatDoor
set_option linter.unusedSimpArgs false
set_option linter.unusedVariables false
open Go.RowKit Go.Shelf

set_option maxRecDepth 100000 in
set_option maxHeartbeats 4000000 in
theorem rounds_law (W : World) (M : Nat) (v : Value) (l : List Nd) (hN : NodesR W M v l) (hM : M ≤ W.heap.size) :
    Calls Tryz.prog 7 #[.agg #[v]] W fun e w' => e = .returned (.bool true) ∧ Below W.heap.size W w' := by
  obtain ⟨W1, hW1⟩ : ∃ W1, W.alloc (.cells #[v] 24) = W1 := ⟨_, rfl⟩
  have HK : Hid (∀ w, Below (W.heap.size + 1) W1 w → _) := fun w hw => box_at (v := v) (by rw [hW1]; exact hw)
  have hz1 : W1.heap.size = W.heap.size + 1 := by rw [← hW1]; simp
  have HG := hide (great_reach W1 M v l (hN.keep (unhide HK W1 (Below.refl _ _)).1 hM) (by omega))
  have HN := hide hN
  have hl1 := hN.1
  obtain ⟨va, vc, rfl, hvc, _⟩ := hN.len
  rw [← hW1] at HG
  have HW1 := hide hW1
  clear hN hW1
  cases ha : decide (3000 < szN l l.length) with
  | true =>
    rw [ha] at HG
    clear ha
    go_enter Tryz.func7, Tryz.ntmps7
    go_wp2_with (go_at_call 9; refine (unhide HG).mono ?_; rw [unhide HW1]; rintro e w2 ⟨rfl, hB2⟩; rw [hz1] at hB2; obtain ⟨k1, k2, k3⟩ := unhide HK w2 hB2)
    go_ret
    exact ⟨rfl, k1⟩
  | false =>
    rw [ha] at HG
    have hal : szN l l.length ≤ 3000 := by simpa using ha
    have hNn := (unhide HN).nodes hal
    clear ha
    by_cases h60 : l.length ≤ 60
    · by_cases hc : (chkP l).2 = 0
      · exact rounds_good W M _ l hNn hM hal h60 hc
      · have h60' : ¬ (60 : Int) < (l.length : Int) := by omega
        have h7 : (chkP l).2 = 7 := (chk_two l).resolve_left hc
        have HC : Hid (∀ w, Below (W.heap.size + 1) W1 w → Calls Tryz.prog 24 #[.agg #[.slice va l.length vc]] w fun e w2 => e = .returned (.tuple #[.int .i64 (chkP l).1, .int .i64 7]) ∧ Below w.heap.size w w2) := fun w hw => by
          have := check_ok w M _ l (hNn.keep (unhide HK w hw).1 hM) (by have := (unhide HK w hw).2.2; omega)
          rwa [h7] at this
        have HS : Hid (∀ w, Below (W.heap.size + 1) W1 w → Calls Tryz.prog 25 #[.agg #[.slice va l.length vc], .int .i64 0] w (SubNo 7 w)) := fun w hw =>
          sub_bad w M _ l 0 (hNn.keep (unhide HK w hw).1 hM) (by have := (unhide HK w hw).2.2; omega) hc
        clear h7 hc
        obtain ⟨c1, hc1⟩ : ∃ c1, (chkP l).1 = c1 := ⟨_, rfl⟩
        rw [hc1] at HC
        clear hc1
        go_enter Tryz.func7, Tryz.ntmps7
        go_wp2_with (first
          | (go_at_call 9; refine (unhide HG).mono ?_; rw [unhide HW1]; rintro e w2 ⟨rfl, hB2⟩; rw [hz1] at hB2; obtain ⟨k1, k2, k3⟩ := unhide HK w2 hB2)
          | (go_at_call 24; refine (unhide HC w2 hB2).mono ?_; rintro e w3 ⟨rfl, hB3⟩; have hB3' := hB2.trans (hB3.mono (by omega)); obtain ⟨m1, m2, m3⟩ := unhide HK w3 hB3')
          | (go_at_call 25; refine (unhide HS w3 hB3').mono ?_; rintro e w4 ⟨rfl, hB4⟩)
          | (go_at_call 13; refine (known3_any _).mono ?_; rintro e w5 ⟨rfl, hB5⟩))
        go_ret
        refine ⟨rfl, m1.trans ((hB4.mono (by omega)).trans ?_)⟩
        have z4 := hB4.size
        exact ((Below.refl W.heap.size w4).alloc (by omega) _).trans (hB5.mono (by simp; omega))
    · have h60' : (60 : Int) < (l.length : Int) := by omega
      go_enter Tryz.func7, Tryz.ntmps7
      go_wp2_with (go_at_call 9; refine (unhide HG).mono ?_; rw [unhide HW1]; rintro e w2 ⟨rfl, hB2⟩; rw [hz1] at hB2; obtain ⟨k1, k2, k3⟩ := unhide HK w2 hB2)
      go_ret
      exact ⟨rfl, k1⟩
end Go.Proofs.YtoffpbaddehncaaGreatDoor

/- The reference's Check (chapter 5) in general. -/
import Derived.LoopN
import Derived.Test.YtnnpkomedpjlcaaGreatDoorG7
import Derived.Test.YtnnpkomedpjlcaaGreatDoorK1
import Derived.Test.YtnnpkomedpjlcaaGreatDoorKY
namespace Go.Proofs.YtnnpkomedpjlcaaGreatDoor
set_option linter.unusedSimpArgs false
set_option linter.unusedVariables false
open Go.RowKit

/-- A kind that the table has is one of those up to 87. -/
theorem kind_le {k : Int} (h : (tabT k).isSome = true) : k ≤ 87 := by
  cases hk : kdR k with
  | false => rw [kd_none hk] at h; cases h
  | true =>
    have := kd_all hk
    simp only [allK, List.mem_cons, List.not_mem_nil, or_false] at this
    omega

set_option maxRecDepth 100000 in
set_option maxHeartbeats 4000000 in
theorem rcheck5_any (W : World) (M : Nat) (v : Value) (l : List Nd) (hN : Nodes W M v l) (hM : M ≤ W.heap.size) (hT : ∀ m, m < l.length → (nd l m).text.size ≤ 1048576) :
    Calls Tryz.prog 9 #[.agg #[v]] W fun e w' => e = .returned (.tuple #[.int .i64 (ccP l).1, .int .i64 (ccP l).2]) ∧ Below W.heap.size W w' := by
  obtain ⟨W1, hW1⟩ : ∃ W1, W.alloc (.cells #[v] 24) = W1 := ⟨_, rfl⟩
  have hB1 : Below W.heap.size W W1 := by rw [← hW1]; exact (Below.refl _ W).alloc (Nat.le_refl _) _
  have hz1 : W1.heap.size = W.heap.size + 1 := by rw [← hW1]; simp
  have hx1 : W1.heap[W.heap.size]? = some (.cells #[v] 24) := by rw [← hW1]; exact World.alloc_heap_new W _
  have HBX : Hid (∀ w', Below W1.heap.size W1 w' → Below W.heap.size W w' ∧ w'.cell? ⟨W.heap.size, 0, none⟩ = some v ∧ W.heap.size < w'.heap.size) := fun w' h =>
    ⟨hB1.trans (h.mono (by omega)), by rw [Lib.cell_of_heap ((h.block _ (by omega)).trans hx1)]; rfl, by have := h.size; omega⟩
  have HC := hide (rcheck_any W1 M v l (hN.keep hB1 hM) (Nat.le_trans hM hB1.size) hT)
  obtain ⟨va, vc, rfl, hvc, _⟩ := hN.len
  have hl1 := hN.1
  by_cases hc : (chkP l).2 = 0
  · have HP : Hid (∀ (w' : World) (i : Nat), Below W1.heap.size W1 w' → i < l.length → Calls Tryz.prog 22 #[.agg #[.slice va l.length vc], .int .i64 (i : Int)] w' fun e w'' => e = .returned (.bool (plainP l i)) ∧ Below w'.heap.size w' w'') := fun w' i h hi => by
      have h1 := (unhide HBX w' h).1
      have hf := chk_all hc hi
      exact plain5_any w' M _ l i (hN.keep h1 hM) (Nat.le_trans hM h1.size) hi (kid_need hf.fit) hf.ins (kind_le (fit_kind hf.fit))
    obtain ⟨c1, hc1⟩ : ∃ c1, (chkP l).1 = c1 := ⟨_, rfl⟩
    rw [hc, hc1] at HC
    have HCC := hide hc
    have HW1 := hide hW1
    clear hN hB1 hW1 hx1 hc hc1
    go_enter Tryz.func9, Tryz.ntmps9
    go_wp2_with (go_at_call 21; rw [unhide HW1]; refine (unhide HC).mono ?_; rintro e w2 ⟨rfl, hB2⟩; have c2 := (unhide HBX w2 hB2).2.1; have s2 := (unhide HBX w2 hB2).2.2)
    have HB2 := hide hB2
    clear hB2
    go_loopw [6] (fun t wr => ∃ i : Nat, i ≤ l.length ∧ t = .int .i64 (i : Int) ∧ (∀ j, j < i → plainP l j = true) ∧ Below W1.heap.size W1 wr) (fun t _ => l.length - (intOf t).toNat)
    case atStart => exact ⟨0, Nat.zero_le _, rfl, fun j hj => by omega, unhide HB2⟩
    case round =>
      obtain ⟨i, hi, rfl, hp, hBr⟩ := hrel
      obtain ⟨_, cr, sr⟩ := unhide HBX wr hBr
      have HBR := hide hBr
      have HPL := hide hp
      clear hBr hp
      by_cases hil : i < l.length
      · have hil' : (i : Int) < (l.length : Int) := by omega
        have HPI := hide (unhide HP wr i (unhide HBR) hil)
        cases hb : plainP l i with
        | true =>
          rw [hb] at HPI
          have HPN : Hid (∀ j, j < i + 1 → plainP l j = true) := fun j hj => by
            by_cases e : j = i
            · subst e; exact hb
            · exact unhide HPL j (by omega)
          clear hb
          go_wp2_with (go_at_call 22; refine (unhide HPI).mono ?_; rintro e w3 ⟨rfl, hB3⟩)
          exact ⟨⟨i + 1, by omega, by go_num, unhide HPN, (unhide HBR).trans (hB3.mono (unhide HBR).size)⟩, by simp [intOf]; omega⟩
        | false =>
          rw [hb] at HPI
          have HR : Hid (ccP l = ((i : Int), 12)) := ccP_at (unhide HCC) hil (unhide HPL) hb
          clear hb
          go_wp2_with (go_at_call 22; refine (unhide HPI).mono ?_; rintro e w3 ⟨rfl, hB3⟩)
          refine bodyPost_ret (results_tmp2 rfl _ _ _) rfl ?_
          exact ⟨by rw [unhide HR]; rfl, (unhide HBX _ ((unhide HBR).trans (hB3.mono (unhide HBR).size))).1⟩
      · have hil' : ¬ (i : Int) < (l.length : Int) := by omega
        have HR : Hid (ccP l = (-1, 0)) := ccP_all (unhide HCC) (fun j hj => unhide HPL j (by omega))
        go_wp2
        refine bodyPost_ret (results_tmp2 rfl _ _ _) rfl ?_
        exact ⟨by rw [unhide HR]; rfl, (unhide HBX _ (unhide HBR)).1⟩
  · have HR : Hid (ccP l = chkP l) := ccP_bad hc
    have hc' : ((chkP l).2 != 0) = true := by simpa using hc
    obtain ⟨c1, hc1⟩ : ∃ c1, (chkP l).1 = c1 := ⟨_, rfl⟩
    obtain ⟨c2, hc2⟩ : ∃ c2, (chkP l).2 = c2 := ⟨_, rfl⟩
    rw [hc1, hc2] at HC
    rw [hc2] at hc'
    have HW1 := hide hW1
    clear hN hB1 hW1 hx1 hc
    go_enter Tryz.func9, Tryz.ntmps9
    go_wp2_with (go_at_call 21; rw [unhide HW1]; refine (unhide HC).mono ?_; rintro e w2 ⟨rfl, hB2⟩)
    refine bodyPost_ret (results_tmp2 rfl _ _ _) rfl ?_
    exact ⟨by rw [unhide HR, hc1, hc2]; rfl, (unhide HBX w2 hB2).1⟩
end Go.Proofs.YtnnpkomedpjlcaaGreatDoor

/- tree.fits, given what the table answers and what its row takes. -/
import Derived.BigQuiet
import Derived.Deep.QuietTactic
import Derived.Laws.EntriesVeiled
import Derived.Lib.Slices
import Derived.RangeFuncBox
import Derived.Test.YtnnpkomedpjlcaaGreatDoorTC
namespace Go.Proofs.YtnnpkomedpjlcaaGreatDoor
set_option linter.unusedSimpArgs false
set_option linter.unusedVariables false
open Go.RowKit
attribute [local go_sem] run_store_fv

/-- A region whose operations only read and whose callees leave a class of worlds: one walk serves every order. -/
theorem region_C {P : Program} {C : World → Prop} {id : Nat} {Q : Exit → Act → World → Prop} {a : Act} {w : World} {l : List Oper} (hm : P.follows .mixedOrders = true) (hB : Region.lexB .any l.toArray = true) (hC : C { w with drawn := w.drawn + 1 })
    (h : wpQuiet P l.toArray C (fun a' => ∀ w', C w' → Q .normal a' w') l a) : (Code.region id l.toArray true).wp P Q a w :=
  wp_region_quiet (C := C) hm hB hC (by simpa using h)

set_option maxRecDepth 100000 in
set_option maxHeartbeats 2000000 in
theorem fits_core (r0 r1 r2 r3 r4 r5 r6 r7 : Option Nat) (b tB nB kB : Bool) (W : World) (M : Nat) (v : Value) (l : List Nd) (n : Nat) (hN : Nodes W M v l) (hn : n < l.length) (hM : M ≤ W.heap.size)
    (h48 : Calls Tryz.prog 52 #[.int .i64 (nd l n).kind] W fun e w' => e = .returned (.tuple #[.agg #[fv r0, fv r1, fv r2, fv r3, fv r4, fv r5, fv r6, fv r7], .bool b]) ∧ Below W.heap.size W w')
    (h49 : ∀ W', Below W.heap.size W W' → Calls Tryz.prog 53 #[.agg #[fv r0, fv r1, fv r2, fv r3, fv r4, fv r5, fv r6, fv r7], .string (nd l n).text] W' fun e w' => e = .returned (.bool tB) ∧ Below W'.heap.size W' w')
    (h50 : ∀ W', Below W.heap.size W W' → Calls Tryz.prog 54 #[.agg #[fv r0, fv r1, fv r2, fv r3, fv r4, fv r5, fv r6, fv r7], .int .i64 (nd l n).num] W' fun e w' => e = .returned (.bool nB) ∧ Below W'.heap.size W' w')
    (h51 : ∀ W' a cap, Below W.heap.size W W' → KidsAt W' M a (nd l n).kids → (nd l n).kids.length ≤ cap → cap ≤ maxLen → Calls Tryz.prog 55 #[.agg #[fv r0, fv r1, fv r2, fv r3, fv r4, fv r5, fv r6, fv r7], v, .slice a (nd l n).kids.length cap] W' fun e w' => e = .returned (.bool kB) ∧ Below W'.heap.size W' w') :
    Calls Tryz.prog 32 #[v, .int .i64 (n : Int)] W fun e w' => e = .returned (.bool (b && tB && nB && kB)) ∧ Below W.heap.size W w' := by
  obtain ⟨bb, o, cap, ka, kc, rfl, hcap, hmx, hb, d0, d1, d2, d3, d4, hkc, hkm, hK⟩ := hN.at hn
  have hlt : (n : Int) < l.length := by omega
  have hbW : bb < W.heap.size := Nat.lt_of_lt_of_le hb hM
  have H48 := hide h48
  have H49 := hide h49
  have H50 := hide h50
  have H51 : Hid (∀ W', Below W.heap.size W W' → Calls Tryz.prog 55 #[.agg #[fv r0, fv r1, fv r2, fv r3, fv r4, fv r5, fv r6, fv r7], .slice (some ⟨bb, o, none⟩) l.length cap, .slice ka (nd l n).kids.length kc] W' fun e w' => e = .returned (.bool kB) ∧ Below W'.heap.size W' w') := fun W' hW' => h51 W' ka kc hW' (hK.keep hW' hM) hkc hkm
  clear hN hn hcap hmx h48 h49 h50 h51 hK hkc hkm
  go_enter Tryz.func32, Tryz.ntmps32
  go_wp2_with (go_at_call 52; refine (unhide H48).mono ?_; rintro e w1 ⟨rfl, hB1⟩)
  obtain ⟨W2, hW2⟩ : ∃ W2, w1.alloc (.cells #[fv r0, fv r1, fv r2, fv r3, fv r4, fv r5, fv r6, fv r7] 74) = W2 := ⟨_, rfl⟩
  have hr2 : W2.heap[w1.heap.size]? = some (.cells #[fv r0, fv r1, fv r2, fv r3, fv r4, fv r5, fv r6, fv r7] 74) := by rw [← hW2]; exact World.alloc_heap_new w1 _
  have hz2 : W2.heap.size = w1.heap.size + 1 := by rw [← hW2]; simp
  have hB2 : Below W.heap.size W W2 := by rw [← hW2]; exact hB1.alloc hB1.size _
  rw [hW2]
  clear hW2
  have hz1 := hB1.size
  refine region_C (C := fun w' => Below (w1.heap.size + 1) W2 w') (by kernel_rfl) (by kernel_rfl) (Below.refl _ _).drew ?_
  have HC : Hid (∀ w', Below (w1.heap.size + 1) W2 w' → W2.heap.size ≤ w'.heap.size ∧ Below W.heap.size W w' ∧ w'.heap[w1.heap.size]? = some (.cells #[fv r0, fv r1, fv r2, fv r3, fv r4, fv r5, fv r6, fv r7] 74) ∧
      w'.cell? ⟨bb, o + n * 5 + 1, none⟩ = some (.string (nd l n).text) ∧ w'.cell? ⟨bb, o + n * 5 + 2, none⟩ = some (.int .i64 (nd l n).num) ∧ w'.cell? ⟨bb, o + n * 5 + 3, none⟩ = some (.slice ka (nd l n).kids.length kc)) := fun w' hw => by
    have h3 : Below W.heap.size W w' := hB2.trans (hw.mono (by omega))
    exact ⟨hw.size, h3, (hw.block _ (by omega)).trans hr2, (h3.cell (p := ⟨bb, o + n * 5 + 1, none⟩) hbW).trans d1, (h3.cell (p := ⟨bb, o + n * 5 + 2, none⟩) hbW).trans d2, (h3.cell (p := ⟨bb, o + n * 5 + 3, none⟩) hbW).trans d3⟩
  clear d0 d1 d2 d3 d4 hr2
  cases b with
  | false =>
    repeat (first
      | go_big_quiet_skip
      | (go_big_quiet_want
         go_big_quiet_op
         first
           | go_big_quiet_on
           | (apply Exists.intro
              refine ⟨fun w hw => ?_, ?_⟩
              first
                | rfl
                | exact (unhide H49 w (unhide HC w hw).2.1).mono fun e w2 h => ⟨h.1, hw.trans (h.2.mono (Nat.le_trans (Nat.le_of_eq hz2.symm) hw.size))⟩
                | exact (unhide H50 w (unhide HC w hw).2.1).mono fun e w2 h => ⟨h.1, hw.trans (h.2.mono (Nat.le_trans (Nat.le_of_eq hz2.symm) hw.size))⟩
                | exact (unhide H51 w (unhide HC w hw).2.1).mono fun e w2 h => ⟨h.1, hw.trans (h.2.mono (Nat.le_trans (Nat.le_of_eq hz2.symm) hw.size))⟩
                | (obtain ⟨hsz, hBw, hr, e1, e2, e3⟩ := unhide HC w hw
                   obtain ⟨g0, g1, g2, g3, g4, g5, g6, g7⟩ := cells8 hr
                   go_simp
                   first | done | rfl | exact ⟨rfl, rfl⟩)
              go_big_quiet_on)))
    refine wpQuiet_nil ?_
    intro w5 hw5
    have hBf := (unhide HC w5 hw5).2.1
    go_wp2
    go_ret
    exact ⟨rfl, hBf⟩
  | true =>
    cases tB with
    | false =>
      repeat (first
        | go_big_quiet_skip
        | (go_big_quiet_want
           go_big_quiet_op
           first
             | go_big_quiet_on
             | (apply Exists.intro
                refine ⟨fun w hw => ?_, ?_⟩
                first
                  | rfl
                  | exact (unhide H49 w (unhide HC w hw).2.1).mono fun e w2 h => ⟨h.1, hw.trans (h.2.mono (Nat.le_trans (Nat.le_of_eq hz2.symm) hw.size))⟩
                  | exact (unhide H50 w (unhide HC w hw).2.1).mono fun e w2 h => ⟨h.1, hw.trans (h.2.mono (Nat.le_trans (Nat.le_of_eq hz2.symm) hw.size))⟩
                  | exact (unhide H51 w (unhide HC w hw).2.1).mono fun e w2 h => ⟨h.1, hw.trans (h.2.mono (Nat.le_trans (Nat.le_of_eq hz2.symm) hw.size))⟩
                  | (obtain ⟨hsz, hBw, hr, e1, e2, e3⟩ := unhide HC w hw
                     obtain ⟨g0, g1, g2, g3, g4, g5, g6, g7⟩ := cells8 hr
                     go_simp
                     first | done | rfl | exact ⟨rfl, rfl⟩)
                go_big_quiet_on)))
      refine wpQuiet_nil ?_
      intro w5 hw5
      have hBf := (unhide HC w5 hw5).2.1
      go_wp2
      go_ret
      exact ⟨rfl, hBf⟩
    | true =>
      cases nB with
      | false =>
        repeat (first
          | go_big_quiet_skip
          | (go_big_quiet_want
             go_big_quiet_op
             first
               | go_big_quiet_on
               | (apply Exists.intro
                  refine ⟨fun w hw => ?_, ?_⟩
                  first
                    | rfl
                    | exact (unhide H49 w (unhide HC w hw).2.1).mono fun e w2 h => ⟨h.1, hw.trans (h.2.mono (Nat.le_trans (Nat.le_of_eq hz2.symm) hw.size))⟩
                    | exact (unhide H50 w (unhide HC w hw).2.1).mono fun e w2 h => ⟨h.1, hw.trans (h.2.mono (Nat.le_trans (Nat.le_of_eq hz2.symm) hw.size))⟩
                    | exact (unhide H51 w (unhide HC w hw).2.1).mono fun e w2 h => ⟨h.1, hw.trans (h.2.mono (Nat.le_trans (Nat.le_of_eq hz2.symm) hw.size))⟩
                    | (obtain ⟨hsz, hBw, hr, e1, e2, e3⟩ := unhide HC w hw
                       obtain ⟨g0, g1, g2, g3, g4, g5, g6, g7⟩ := cells8 hr
                       go_simp
                       first | done | rfl | exact ⟨rfl, rfl⟩)
                  go_big_quiet_on)))
        refine wpQuiet_nil ?_
        intro w5 hw5
        have hBf := (unhide HC w5 hw5).2.1
        go_wp2
        go_ret
        exact ⟨rfl, hBf⟩
      | true =>
        repeat (first
          | go_big_quiet_skip
          | (go_big_quiet_want
             go_big_quiet_op
             first
               | go_big_quiet_on
               | (apply Exists.intro
                  refine ⟨fun w hw => ?_, ?_⟩
                  first
                    | rfl
                    | exact (unhide H49 w (unhide HC w hw).2.1).mono fun e w2 h => ⟨h.1, hw.trans (h.2.mono (Nat.le_trans (Nat.le_of_eq hz2.symm) hw.size))⟩
                    | exact (unhide H50 w (unhide HC w hw).2.1).mono fun e w2 h => ⟨h.1, hw.trans (h.2.mono (Nat.le_trans (Nat.le_of_eq hz2.symm) hw.size))⟩
                    | exact (unhide H51 w (unhide HC w hw).2.1).mono fun e w2 h => ⟨h.1, hw.trans (h.2.mono (Nat.le_trans (Nat.le_of_eq hz2.symm) hw.size))⟩
                    | (obtain ⟨hsz, hBw, hr, e1, e2, e3⟩ := unhide HC w hw
                       obtain ⟨g0, g1, g2, g3, g4, g5, g6, g7⟩ := cells8 hr
                       go_simp
                       first | done | rfl | exact ⟨rfl, rfl⟩)
                  go_big_quiet_on)))
        refine wpQuiet_nil ?_
        intro w5 hw5
        have hBf := (unhide HC w5 hw5).2.1
        go_wp2
        go_ret
        exact ⟨rfl, hBf⟩
end Go.Proofs.YtnnpkomedpjlcaaGreatDoor

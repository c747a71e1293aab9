/- Of one row: isComplex, refused, settled. -/
import Derived.LoopTactic
import Derived.WalkMore
import Derived.Test.YtapnnbgcdijfpaaGreatDoorMB
import Derived.Test.YtapnnbgcdijfpaaGreatDoorKW
namespace Go.Proofs.YtapnnbgcdijfpaaGreatDoor
set_option linter.unusedSimpArgs false
set_option linter.unusedVariables false
set_option maxRecDepth 100000
set_option maxHeartbeats 4000000
open Go.RowKit Go.Shelf

/-- A worklist of one row that nobody asks. -/
structure Wk (M b m r k : Nat) (x y s : Int) (w : World) : Prop where
  bx : Bx w b #[.pointer (some ⟨M, 0, none⟩), .map (some m), .bool false, .slice (some ⟨r, 0, none⟩) 1 1, .map (some k)] 139
  row : Bx w r #[.int .i64 x, .int .i64 y, .int .i64 s, .slice none 0 0] 135
theorem Wk.below {M b m r k : Nat} {x y s : Int} {w w' : World} (h : Wk M b m r k x y s w) (hb : Below w.heap.size w w') : Wk M b m r k x y s w' := ⟨h.bx.below hb h.bx.lt, h.row.below hb h.row.lt⟩
theorem complex_no {M b m r k : Nat} {x y s : Int} {w : World} (h : Wk M b m r k x y s w) : Calls Tryz.prog 52 #[.pointer (some ⟨b, 0, none⟩)] w fun e w' => e = .returned (.bool false) ∧ w' = w := by
  have c2 := h.bx.cell 2 rfl
  have c3 := h.bx.cell 3 rfl
  have hl := h.bx.lt
  clear h
  go_enter Tryz.func52, Tryz.ntmps52
  go_wp2
  go_ret
  exact ⟨rfl, rfl⟩
theorem info135 : (Tryz.prog.info? 135).map (·.size) = some 4 := by kernel_rfl
theorem one4q (x y s : Int) (a : Option Addr) (n c : Nat) : (#[.int .i64 x, .int .i64 y, .int .i64 s, .slice a n c] : Array Value).all (·.oneCell') = true := by simp [Value.oneCell']
/-- The row as it is loaded and laid by. -/
theorem refused_no {M b m r k : Nat} {x y s : Int} {w : World} (h : Wk M b m r k x y s w) (hs : 0 ≤ s) : Calls Tryz.prog 90 #[.pointer (some ⟨b, 0, none⟩)] w fun e w' => e = .returned (.slice none 0 0) ∧ Below w.heap.size w w' := by
  have c3 := h.bx.cell 3 rfl
  have hl := h.bx.lt
  have HR := hide h.row
  have hd : decide (0 ≤ s) = true := decide_eq_true hs
  have HY := hide (fun w' => isYes_any w' x y s (.slice none 0 0))
  rw [hd] at HY
  clear h hd hs
  go_enter Tryz.func90, Tryz.ntmps90
  go_wp2
  refine wp_loop_rounds 2 ?_
  rw [rounds_succ]
  go_wp2_with (first
    | (refine wpList_load_row rfl 135 _ rfl r rfl 135 _ (0, 0) _ (unhide HR) Tryz.underlying135 rfl info135 ?_)
    | (refine wpList_store_row rfl 135 _ _ rfl w.heap.size _ rfl rfl 135 _ (al_at w _) info135 rfl (one4q _ _ _ _ _ _) ?_)
    | (refine wpList_load_row rfl 135 _ rfl w.heap.size rfl 135 _ (0, 0) _ (setRow_heap _ _ _ _ _ _ (al_at w _)) Tryz.underlying135 rfl info135 ?_)
    | (go_at_call 91
       refine (unhide HY _).mono ?_
       rintro e w2 ⟨rfl, hb2⟩))
  have HB2 := hide ((below_row ((Below.refl _ w).alloc (Nat.le_refl _) _) (Nat.le_refl _) _).trans (hb2.mono (by simp)))
  clear hb2
  rw [rounds_succ]
  go_wp2
  go_ret
  exact ⟨rfl, unhide HB2⟩
theorem refused_yes {M b m r k : Nat} {x y s : Int} {w : World} (h : Wk M b m r k x y s w) (hs : ¬ 0 ≤ s) : Calls Tryz.prog 90 #[.pointer (some ⟨b, 0, none⟩)] w fun e w' => ∃ g c, e = .returned (.slice (some ⟨g, 0, none⟩) 1 c) ∧ w'.cell? ⟨g, 0, none⟩ = some (.int .i64 0) ∧ Below w.heap.size w w' := by
  have c3 := h.bx.cell 3 rfl
  have hl := h.bx.lt
  have HR := hide h.row
  have hd : decide (0 ≤ s) = false := decide_eq_false hs
  have HY := hide (fun w' => isYes_any w' x y s (.slice none 0 0))
  rw [hd] at HY
  obtain ⟨j0, hj, hy0, hy1, hy2⟩ := info_parts infoInt
  clear h hd hs
  go_enter Tryz.func90, Tryz.ntmps90
  go_wp2
  refine wp_loop_rounds 2 ?_
  rw [rounds_succ]
  go_wp2_with (first
    | (refine wpList_load_row rfl 135 _ rfl r rfl 135 _ (0, 0) _ (unhide HR) Tryz.underlying135 rfl info135 ?_)
    | (refine wpList_store_row rfl 135 _ _ rfl w.heap.size _ rfl rfl 135 _ (al_at w _) info135 rfl (one4q _ _ _ _ _ _) ?_)
    | (refine wpList_load_row rfl 135 _ rfl w.heap.size rfl 135 _ (0, 0) _ (setRow_heap _ _ _ _ _ _ (al_at w _)) Tryz.underlying135 rfl info135 ?_)
    | (go_at_call 91
       refine (unhide HY _).mono ?_
       rintro e w2 ⟨rfl, hb2⟩
       have HB2 := hide ((below_row ((Below.refl _ w).alloc (Nat.le_refl _) _) (Nat.le_refl _) _).trans (hb2.mono (by simp)))
       clear hb2)
    | (refine wpList_append_own _ rfl _ _ 22 rfl w.heap.size 3 j0 (.int .i64 0) 1 8 Tryz.underlying22 hj hy0 hy1 hy2 rfl (by decide) _ 0 [] rfl (World.ownsRow_nil _ _ _ _) ⟨w2.heap.size, 0, none⟩ 1 1 [.int .i64 0] rfl rfl (cell_one_new _ _ _) (ints_oneCell .i64 [0]) (by decide) (by decide) (by have := (unhide HB2).size; simp; omega) ?_
       intro v' w3 hown3 hgrow3 hnil3
       have HB3 := hide ((unhide HB2).trans ((((Below.refl _ w2).alloc (Nat.le_refl _) _).grown hgrow3 (by simp) (fun k e => by cases e)).mono (unhide HB2).size))
       obtain ⟨g3, cp3, hv3, hc3⟩ : ∃ g3 cp3, v' = .slice (some ⟨g3, 0, none⟩) 1 cp3 ∧ w3.cell? ⟨g3, 0, none⟩ = some (.int .i64 0) := (by
         rcases hown3.2 with ⟨e, e'⟩ | ⟨g, cap, cur, e, _, hh, hr⟩
         · cases e'
         · refine ⟨g, cap, e, ?_⟩
           have h1 : (cur.toList.take ((0 + 1) * 1))[0]? = some (.int .i64 0) := (by rw [hr.2.2.2]; rfl)
           rw [List.getElem?_take_of_lt (by omega)] at h1
           simp only [Array.getElem?_toList] at h1
           simp [World.cell?, hh, h1])
       subst hv3
       clear hown3 hgrow3 hnil3))
  rw [rounds_succ]
  go_wp2
  go_ret
  exact ⟨_, _, rfl, hc3, unhide HB3⟩
theorem settled_any {M b m r k : Nat} {x y s : Int} {w : World} (h : Wk M b m r k x y s w) : Calls Tryz.prog 53 #[.pointer (some ⟨b, 0, none⟩)] w fun e w' => e = .returned (.bool (decide (0 ≤ s))) ∧ Below w.heap.size w w' := by
  have HW : Hid (∀ w', Below w.heap.size w w' → Wk M b m r k x y s w') := fun w' hb => h.below hb
  have HY := hide (fun w' => isYes_any w' x y s (.slice none 0 0))
  by_cases hs : 0 ≤ s
  · have HF := hide (refused_no h hs)
    clear h
    go_enter Tryz.func53, Tryz.ntmps53
    go_wp2
    go_step3
    go_wp2_with (first
      | (go_at_call 90
         refine (unhide HF).mono ?_
         rintro e w2 ⟨rfl, hb2⟩
         have HB2 := hide hb2
         have h2 := unhide HW w2 hb2
         have c3 := h2.bx.cell 3 rfl
         have hl := h2.bx.lt
         have HR := hide h2.row
         clear h2 hb2))
    go_step3
    go_wp2
    refine wp_loop_rounds 1 ?_
    rw [rounds_succ]
    go_wp2_with (first
      | (refine wpList_load_row rfl 135 _ rfl r rfl 135 _ (0, 0) _ (unhide HR) Tryz.underlying135 rfl info135 ?_)
      | (go_at_call 91
         refine (unhide HY _).mono ?_
         rintro e w3 ⟨rfl, hb3⟩
         have HB3 := hide ((unhide HB2).trans (hb3.mono (unhide HB2).size))
         clear hb3))
    rw [Exit.noGoto_ret]
    go_ret
    exact ⟨by first | rfl | (rw [decide_eq_true hs]; rfl) | (rw [decide_eq_false hs]; rfl), unhide HB3⟩
  · have HF := hide (refused_yes h hs)
    clear h
    go_enter Tryz.func53, Tryz.ntmps53
    go_wp2
    go_step3
    go_wp2_with (first
      | (go_at_call 90
         refine (unhide HF).mono ?_
         rintro e w2 ⟨g, cp, rfl, d0, hb2⟩
         have HB2 := hide hb2
         have h2 := unhide HW w2 hb2
         have c3 := h2.bx.cell 3 rfl
         have hl := h2.bx.lt
         have r3 := h2.row.cell 3 rfl
         have hrl := h2.row.lt
         have hgl := World.block_lt_of_cell? w2 _ d0
         have HR := hide h2.row
         clear h2 hb2))
    go_step3
    go_wp2
    refine wp_loop_rounds 2 ?_
    rw [rounds_succ]
    go_wp2
    refine wp_loop_rounds 2 ?_
    rw [rounds_succ]
    go_wp2
    refine wp_loop_rounds 1 ?_
    rw [rounds_succ]
    go_wp2
    rw [rounds_succ]
    go_wp2
    rw [rounds_succ]
    go_wp2_with (first
      | (refine wpList_load_row rfl 135 _ rfl r rfl 135 _ (0, 0) _ (unhide HR) Tryz.underlying135 rfl info135 ?_)
      | (go_at_call 91
         refine (unhide HY _).mono ?_
         rintro e w3 ⟨rfl, hb3⟩
         have HB3 := hide ((unhide HB2).trans (hb3.mono (unhide HB2).size))
         clear hb3))
    rw [Exit.noGoto_ret]
    go_ret
    exact ⟨by first | rfl | (rw [decide_eq_true hs]; rfl) | (rw [decide_eq_false hs]; rfl), unhide HB3⟩
end Go.Proofs.YtapnnbgcdijfpaaGreatDoor

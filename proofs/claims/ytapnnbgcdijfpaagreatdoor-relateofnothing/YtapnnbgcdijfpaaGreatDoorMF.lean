/- relate's pieces: a map that keeps what was asked. -/
import Derived.Test.YtapnnbgcdijfpaaGreatDoorME
namespace Go.Proofs.YtapnnbgcdijfpaaGreatDoor
set_option linter.unusedSimpArgs false
set_option linter.unusedVariables false
set_option maxRecDepth 100000
set_option maxHeartbeats 4000000
open Go.RowKit Go.Shelf

variable {P : Program} {lo M : Nat} {mo : Option Nat} {dv : Value} {L : List Kt} {W : World}
/-- Members without a list, by their error. -/
def memElem : Value → Option (DataW Unit × List MemPlace)
  | .agg ⟨[.slice none 0 0, .int .i64 e]⟩ => some (.lit (.int .i64 e), [])
  | _ => none
theorem memElem_mk (e : Int) : memElem (.agg #[.slice none 0 0, .int .i64 e]) = some (.lit (.int .i64 e), []) := rfl
theorem memElem_inv {v : Value} {e : Int} {ps : List MemPlace} (h : memElem v = some (.lit (.int .i64 e), ps)) : v = .agg #[.slice none 0 0, .int .i64 e] := by
  unfold memElem at h
  split at h
  · cases h; rfl
  · cases h
/-- What was asked has no members. -/
def MemD (D : DataW Unit) : Prop := Maps.IsMap D ∧ ∀ kl, Maps.has D kl = true → D.atKey kl (.lit (.int .i64 0)) = .lit (.int .i64 11)
theorem zero236 (w : World) : (zeroValue 236).run Tryz.prog w = .ok (.agg #[.slice none 0 0, .int .i64 0]) w := by kernel_rfl
theorem info236 : (Tryz.prog.info? 236).map (·.size) = some 2 := by kernel_rfl
structure MemAt (m n : Nat) (W : World) : Prop where
  own : ∃ D, W.ownsMap Tryz.prog 3 memElem m n D ∧ MemD D
theorem key3 (i : Nat) (h : i ≤ 1000000) : keyOf Tryz.prog 3 (.int .i64 (i : Int)) = some (.int .i64 (i : Int)) := Maps.keyOf_int_mk Tryz.underlying3 (WalkArith.wf_i64 (by omega))
theorem MemD.put {D : DataW Unit} (h : MemD D) (i : Int) : MemD (D.put (.int .i64 i) (.lit (.int .i64 11))) := by
  refine ⟨h.1.put _ _, fun kl hk => ?_⟩
  by_cases e : kl = .int .i64 i
  · subst e; exact Maps.atKey_put_same h.1 (by simp [WideAt.IsKeyLit]) _ _
  · rw [Maps.atKey_put_other e]
    rw [Maps.has_put_other e] at hk
    exact h.2 kl hk
theorem one2m (e : Int) : (#[.slice none 0 0, .int .i64 e] : Array Value).all (·.oneCell') = true := by simp [Value.oneCell']
/-- Asked before. -/
theorem piecesOf_had (m n b : Nat) (c1 : W.cell? ⟨b, 1, none⟩ = some (.map (some m))) (D : DataW Unit) (ho : W.ownsMap Tryz.prog 3 memElem m n D) (hD : MemD D) (i : Nat) (hi : i ≤ 1000000) (hh : Maps.has D (.int .i64 (i : Int)) = true) : Calls Tryz.prog 155 #[.pointer (some ⟨b, 0, none⟩), .int .i64 (i : Int)] W fun e w' => e = .returned (.agg #[.slice none 0 0, .int .i64 11]) ∧ Below W.heap.size W w' := by
  have hat := hD.2 _ hh
  have HO := hide (ho.alloc (.cells #[.slice none 0 0, .int .i64 0] 236))
  have HK := hide (key3 i hi)
  have hbl : b < W.heap.size := World.block_lt_of_cell? W _ c1
  have HAT := hide hat
  clear ho hD hat
  go_enter Tryz.func155, Tryz.ntmps155
  go_wp2_with (first
    | (at_lookup
       refine wpList_lookup_own_ok _ rfl _ _ 131 rfl 3 236 law3 Tryz.underlying131 memElem (zero236 _) (.lit (.int .i64 0)) [] (memElem_mk 0) m n D rfl (unhide HO) _ _ rfl (unhide HK) ?_
       intro v ps hv
       rw [unhide HAT] at hv
       obtain rfl := memElem_inv hv
       rw [hh]
       clear hv)
    | (refine wpList_store_row rfl 236 _ _ rfl (W.heap.size + 1) _ rfl rfl 236 _ (bx_last (by simp)) info236 rfl (one2m _) ?_)
    | (refine wpList_load_row rfl 236 _ rfl (W.heap.size + 1) rfl 236 _ (0, 0) _ (setRow_heap _ _ _ _ _ _ (bx_last (by simp))) Tryz.underlying236 rfl info236 ?_)
    | (refine wpList_store_row rfl 236 _ _ rfl W.heap.size _ rfl rfl 236 _ ((heap_setRow_ne _ _ _ _ (by omega)).trans ((Below.heap_alloc _ _ _ (by simp)).trans (al_at W _))) info236 rfl (one2m _) ?_))
  refine bodyPost_ret (results_cell_row rfl _ _ W.heap.size 236 _ (0, 0) _ rfl (setRow_heap _ _ _ _ _ _ ((heap_setRow_ne _ _ _ _ (by omega)).trans ((Below.heap_alloc _ _ _ (by simp)).trans (al_at W _)))) Tryz.underlying236 rfl info236) rfl ?_
  exact ⟨rfl, below_row (below_row (((Below.refl _ W).alloc (Nat.le_refl _) _).alloc (by simp) _) (by omega) _) (Nat.le_refl _) _⟩
/-- Asked for the first time. -/
theorem piecesOf_new (m n b : Nat) (h : AAt Tryz.prog lo M mo dv L W) (c0 : W.cell? ⟨b, 0, none⟩ = some (.pointer (some ⟨M, 0, none⟩))) (c1 : W.cell? ⟨b, 1, none⟩ = some (.map (some m))) (D : DataW Unit) (ho : W.ownsMap Tryz.prog 3 memElem m n D) (hD : MemD D) (hn : n ≤ 1000) (i : Nat) (hi : i ≤ 1000000) (k : Kt) (hk : L[i]? = some k) (h14 : k.kind ≠ 14) (h17 : k.kind ≠ 17) (hh : Maps.has D (.int .i64 (i : Int)) = false) : Calls Tryz.prog 155 #[.pointer (some ⟨b, 0, none⟩), .int .i64 (i : Int)] W fun e w' => e = .returned (.agg #[.slice none 0 0, .int .i64 11]) ∧ w'.ownsMap Tryz.prog 3 memElem m (n + 1) (D.put (.int .i64 (i : Int)) (.lit (.int .i64 11))) ∧ W.grownBy w' (some m) := by
  have hat := Maps.atKey_of_not_has hh (.lit (.int .i64 0))
  have HO := hide (ho.alloc (.cells #[.slice none 0 0, .int .i64 0] 236))
  have HK := hide (key3 i hi)
  have hbl : b < W.heap.size := World.block_lt_of_cell? W _ c1
  have HAT := hide hat
  have hml := map_lt ho
  have HOO := hide ho
  have HP : Hid (∀ w', Below W.heap.size W w' → Calls Tryz.prog 16 #[.pointer (some ⟨M, 0, none⟩), .int .i64 (i : Int)] w' fun e w'' => e = .returned (.tuple #[.slice none 0 0, .int .i64 11]) ∧ Below w'.heap.size w' w'') := fun w' hb => pieces_none (h.below hb) i k hk h14 h17
  have hb0 : Below W.heap.size W (((W.alloc (.cells #[.slice none 0 0, .int .i64 0] 236)).alloc (.cells #[.slice none 0 0, .int .i64 0] 236)).setRow (W.heap.size + 1) #[.slice none 0 0, .int .i64 0]) := below_row (((Below.refl _ W).alloc (Nat.le_refl _) _).alloc (by simp) _) (by omega) _
  have s0 := (hb0.cell (p := ⟨b, 0, none⟩) hbl).trans c0
  clear ho hD hat h hk h14 h17 hb0
  go_enter Tryz.func155, Tryz.ntmps155
  go_wp2_with (first
    | (at_lookup
       refine wpList_lookup_own_ok _ rfl _ _ 131 rfl 3 236 law3 Tryz.underlying131 memElem (zero236 _) (.lit (.int .i64 0)) [] (memElem_mk 0) m n D rfl (unhide HO) _ _ rfl (unhide HK) ?_
       intro v ps hv
       rw [unhide HAT] at hv
       obtain rfl := memElem_inv hv
       rw [hh]
       clear hv)
    | (refine wpList_store_row rfl 236 _ _ rfl (W.heap.size + 1) _ rfl rfl 236 _ (bx_last (by simp)) info236 rfl (one2m _) ?_)
    | (go_at_call 16
       refine (unhide HP _ (by first | exact below_row (((Below.refl _ W).alloc (Nat.le_refl _) _).alloc (by simp) _) (by omega) _ | exact ((Below.refl _ W).alloc (Nat.le_refl _) _).alloc (by simp) _)).mono ?_
       rintro e w2 ⟨rfl, hb2⟩
       have hx2 : Bx w2 (W.heap.size + 1) #[.slice none 0 0, .int .i64 0] 236 := (by first | exact Bx.below (setRow_heap _ _ _ _ _ _ (bx_last (by simp))) hb2 (by simp) | exact Bx.below (bx_last (by simp)) hb2 (by simp))
       have hz2 : Bx w2 W.heap.size #[.slice none 0 0, .int .i64 0] 236 := (by first | exact Bx.below ((heap_setRow_ne _ _ _ _ (by omega)).trans ((Below.heap_alloc _ _ _ (by simp)).trans (al_at W _))) hb2 (by simp; omega) | exact Bx.below ((Below.heap_alloc _ _ _ (by simp)).trans (al_at W _)) hb2 (by simp; omega))
       have HB2 : Hid (Below W.heap.size W w2) := (by first | exact (below_row (((Below.refl _ W).alloc (Nat.le_refl _) _).alloc (by simp) _) (by omega) _).trans (hb2.mono (by simp; omega)) | exact (((Below.refl _ W).alloc (Nat.le_refl _) _).alloc (by simp) _).trans (hb2.mono (by simp; omega)))
       have HX2 := hide hx2
       have HZ2 := hide hz2
       have d0 := hx2.cell 0 rfl
       have d1 := hx2.cell 1 rfl
       have f0 := hx2.free 0
       have f1 := hx2.free 1
       have l2 := hx2.lt
       have e1 : w2.cell? ⟨b, 1, none⟩ = some (.map (some m)) := ((unhide HB2).cell (p := ⟨b, 1, none⟩) hbl).trans c1
       clear hb2 hx2 hz2))
  have hm1 : m ≠ W.heap.size + 1 := by omega
  have ho2 : w2.ownsMap Tryz.prog 3 memElem m n D := map_keep (unhide HOO) ((unhide HB2).block m hml)
  have ho3 := ((ho2.setCell (a := ⟨W.heap.size + 1, 0, none⟩) hm1 (.slice none 0 0)).setCell (a := ⟨W.heap.size + 1, 1, none⟩) hm1 (.int .i64 11)).drew
  obtain ⟨w4, hrun, ho4, ht4⟩ := ho3.store law3 Tryz.underlying131 (Nat.lt_of_le_of_lt hn (by decide)) (unhide HK) (memElem_mk 11)
  have hx3 : Bx ((w2.setCell ⟨W.heap.size + 1, 0, none⟩ (.slice none 0 0)).setCell ⟨W.heap.size + 1, 1, none⟩ (.int .i64 11)) (W.heap.size + 1) #[.slice none 0 0, .int .i64 11] 236 := ((unhide HX2).set _).set _
  have hg4 := ht4.grown
  have hz3 : Bx ((w2.setCell ⟨W.heap.size + 1, 0, none⟩ (.slice none 0 0)).setCell ⟨W.heap.size + 1, 1, none⟩ (.int .i64 11)) W.heap.size #[.slice none 0 0, .int .i64 0] 236 := (Below.heap_setCell _ _ _ _ (by simp)).trans ((Below.heap_setCell _ _ _ _ (by simp)).trans (unhide HZ2))
  have HX4 : Hid (Bx w4 (W.heap.size + 1) #[.slice none 0 0, .int .i64 11] 236) := (hg4.block _ hx3.lt (fun e => by cases e; omega)).trans hx3
  have HZ4 : Hid (Bx w4 W.heap.size #[.slice none 0 0, .int .i64 0] 236) := (hg4.block _ hz3.lt (fun e => by cases e; omega)).trans hz3
  have HO4 := hide ho4
  have HG4 := hide hg4
  clear ho2 ho3 ho4 ht4 hx3 hg4 hz3
  go_region
  all_goals (
    go_wp2_with (first
      | (refine wpList_load_row rfl 236 _ rfl (W.heap.size + 1) rfl 236 _ (0, 0) _ (unhide HX4) Tryz.underlying236 rfl info236 ?_)
      | (refine wpList_store_row rfl 236 _ _ rfl W.heap.size _ rfl rfl 236 _ (unhide HZ4) info236 rfl (one2m _) ?_))
    refine bodyPost_ret (results_cell_row rfl _ _ W.heap.size 236 _ (0, 0) _ rfl (setRow_heap _ _ _ _ _ _ (unhide HZ4)) Tryz.underlying236 rfl info236) rfl ?_
    refine ⟨rfl, map_keep (unhide HO4) (heap_setRow_ne _ _ _ _ (by omega)), ?_⟩
    have hB3 : Below W.heap.size W (((w2.setCell ⟨W.heap.size + 1, 0, none⟩ (.slice none 0 0)).setCell ⟨W.heap.size + 1, 1, none⟩ (.int .i64 11)).drew) := (((unhide HB2).setCell (by simp) _).setCell (by simp) _).drew
    have hg := unhide HG4
    exact ⟨hg.os.trans hB3.os, hg.tape.trans hB3.tape, hg.output.trans hB3.output, by simpa using Nat.le_trans hB3.size hg.size, fun j hj hne => (heap_setRow_ne _ _ _ _ (by omega)).trans ((hg.block j (Nat.lt_of_lt_of_le hj hB3.size) hne).trans (hB3.block j hj))⟩)
end Go.Proofs.YtapnnbgcdijfpaaGreatDoor

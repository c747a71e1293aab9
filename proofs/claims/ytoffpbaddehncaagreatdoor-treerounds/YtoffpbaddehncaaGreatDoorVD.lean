/- The law TreeRounds over a tree that Check takes. -/
import Derived.LoopN
import Derived.OwnWalk
import Derived.BigQuiet
import Derived.Deep.RegionWith
import Derived.Deep.RegionHeld3
import Derived.Deep.AppendLies
import Derived.Test.YtoffpbaddehncaaGreatDoorVC
namespace Go.Proofs.YtoffpbaddehncaaGreatDoor
set_option linter.unusedSimpArgs false
set_option linter.unusedVariables false
open Go.RowKit Go.Shelf

/-- The box at the head. -/
theorem box_at {W w : World} {v : Value} (h : Below (W.heap.size + 1) (W.alloc (.cells #[v] 24)) w) :
    Below W.heap.size W w ∧ w.cell? ⟨W.heap.size, 0, none⟩ = some v ∧ W.heap.size < w.heap.size := by
  refine ⟨((Below.refl _ W).alloc (Nat.le_refl _) _).trans (h.mono (by omega)), ?_, by have := h.size; simp at this; omega⟩
  rw [Lib.cell_of_heap ((h.block W.heap.size (by omega)).trans (at_a1 W _))]; rfl

theorem box_keep {w w6 : World} (h : Below (w.drew.alloc (.cells #[.slice none 0 0] 24)).heap.size (w.drew.alloc (.cells #[.slice none 0 0] 24)) w6) : w6.cell? ⟨w.heap.size, 0, none⟩ = some (.slice none 0 0) ∧ w6.frozen? ⟨w.heap.size, 0, none⟩ = false ∧ w.heap.size < w6.heap.size := by
  have hz : (w.drew.alloc (.cells #[.slice none 0 0] 24)).heap.size = w.heap.size + 1 := World.size_alloc w.drew _
  have e1 := (h.block w.heap.size (by omega)).trans (at_a1 w.drew _)
  refine ⟨?_, frozen_at e1 0, by have := h.size; omega⟩
  rw [Lib.cell_of_heap e1]; rfl

theorem OwnN.setLow {w : World} {B k : Nat} {v y : Value} {es : List NE} (h : OwnN w B v es) (hk : k < B) : OwnN (w.setCell ⟨k, 0, none⟩ y) B v es :=
  ⟨ownsRow_heap h.1 (fun g hg => Below.heap_setCell _ _ _ _ (by have := (h.1.lt g hg).1; show g ≠ k; omega)), fun e he => by
    obtain ⟨h1, h2, h3⟩ := h.2 e he
    refine ⟨h1, h2, ?_⟩
    rcases h3 with h3 | ⟨kb, cur, ha, hb, hh, hc⟩
    · exact .inl h3
    · exact .inr ⟨kb, cur, ha, hb, (Below.heap_setCell _ _ _ _ (by show kb ≠ k; omega)).trans hh, hc⟩⟩
theorem set_read {w : World} {k : Nat} {x y : Value} (h : w.cell? ⟨k, 0, none⟩ = some x) : (w.setCell ⟨k, 0, none⟩ y).cell? ⟨k, 0, none⟩ = some y := by
  apply World.cell?_setCell_same
  exact h
set_option maxRecDepth 100000 in
set_option maxHeartbeats 8000000 in
theorem rounds_good (W : World) (M : Nat) (v : Value) (l : List Nd) (hN : Nodes W M v l) (hM : M ≤ W.heap.size) (hs : szN l l.length ≤ 3000) (h60 : l.length ≤ 60) (h : (chkP l).2 = 0) :
    Calls Tryz.prog 7 #[.agg #[v]] W fun e w' => e = .returned (.bool true) ∧ Below W.heap.size W w' := by
  obtain ⟨j0, hj, hy0, hy1, hy2⟩ := info_parts infoTree
  obtain ⟨W1, hW1⟩ : ∃ W1, W.alloc (.cells #[v] 24) = W1 := ⟨_, rfl⟩
  have HK : Hid (∀ w, Below (W.heap.size + 1) W1 w → _) := fun w hw => box_at (v := v) (by rw [hW1]; exact hw)
  have hz1 : W1.heap.size = W.heap.size + 1 := by rw [← hW1]; simp
  have HN := hide hN
  have HSZ := hide (sz_of hs)
  have HFA : Hid (∀ m, m < l.length → Fine l m) := fun m hm => chk_all h hm
  have hl0 := (chk_fine h).1
  have HG : Hid (Calls Tryz.prog 9 #[.agg #[v]] W1 fun e w2 => e = .returned (.bool false) ∧ Below W1.heap.size W1 w2) := by
    have := great_any W1 M v l (hN.keep (unhide HK W1 (Below.refl _ _)).1 hM) (by omega)
    rwa [show decide (3000 < szN l l.length) = false from decide_eq_false (by omega)] at this
  have HC : Hid (∀ w, Below (W.heap.size + 1) W1 w → Calls Tryz.prog 24 #[.agg #[v]] w fun e w2 => e = .returned (.tuple #[.int .i64 (chkP l).1, .int .i64 0]) ∧ Below w.heap.size w w2) := fun w hw => by
    have := check_ok w M v l (hN.keep (unhide HK w hw).1 hM) (by have := (unhide HK w hw).2.2; omega)
    rwa [h] at this
  have HS : Hid (∀ w, Below (W.heap.size + 1) W1 w → ∀ m, m < l.length → Calls Tryz.prog 25 #[.agg #[v], .int .i64 (m : Int)] w (SubYes l m w)) := fun w hw m hm =>
    sub_in w M v l m (hN.keep (unhide HK w hw).1 hM) (by have := (unhide HK w hw).2.2; omega) h hm
  have HZ : Hid (subT l 0 = l) := subT_zero (by omega) h
  obtain ⟨va, vc, rfl, hvc, _⟩ := hN.len
  have h60' : ¬ (60 : Int) < (l.length : Int) := by omega
  rw [← hW1] at HG
  have HW1 := hide hW1
  obtain ⟨c1, hc1⟩ : ∃ c1, (chkP l).1 = c1 := ⟨_, rfl⟩
  rw [hc1] at HC
  clear hN hs h hW1 hc1
  go_enter Tryz.func7, Tryz.ntmps7
  go_wp2_with (first | (go_at_call 9; refine (unhide HG).mono ?_; rw [unhide HW1]; rintro e w2 ⟨rfl, hB2⟩; rw [hz1] at hB2; obtain ⟨k1, k2, k3⟩ := unhide HK w2 hB2) | (go_at_call 24; refine (unhide HC w2 hB2).mono ?_; rintro e w3 ⟨rfl, hB3⟩))
  have hB3' := hB2.trans (hB3.mono (by omega))
  have HB3 := hide hB3'
  clear hB3' hB3 hB2 k1 k2 k3
  go_loopw [7] (fun t7 wr => ∃ i : Nat, i ≤ l.length ∧ t7 = .int .i64 (i : Int) ∧ Below (W.heap.size + 1) W1 wr) (fun t7 _ => l.length - (intOf t7).toNat)
  case atStart => exact ⟨0, Nat.zero_le _, rfl, unhide HB3⟩
  case round =>
    obtain ⟨i, hil, rfl, hBr⟩ := hrel
    obtain ⟨r1, r2, r3⟩ := unhide HK wr hBr
    obtain ⟨w0, hw0⟩ : ∃ w0, w0 = wr := ⟨_, rfl⟩
    subst hw0
    by_cases hlt : i < l.length
    · have hlt' : (i : Int) < l.length := by omega
      have hi0 : (0 : Int) ≤ (i : Int) := by omega
      obtain ⟨b, o, cap', ka, kc, hv, _, _, hb, d0, d1, d2, d3, d4, hkc, hkm, hK⟩ := (unhide HN).at hlt
      obtain ⟨rfl, rfl⟩ : va = some ⟨b, o, none⟩ ∧ cap' = vc := by injection hv with h1 _ h3; exact ⟨h1, h3.symm⟩
      have hkids := (unhide HFA i hlt).ins
      have HKD := hide hkids
      have hbW : b < W.heap.size := by omega
      have HND : Hid (∀ w, Below (W.heap.size + 1) W1 w → w.cell? ⟨b, o + i * 5, none⟩ = some (.int .i64 (nd l i).kind) ∧ w.cell? ⟨b, o + i * 5 + 1, none⟩ = some (.string (nd l i).text) ∧ w.cell? ⟨b, o + i * 5 + 2, none⟩ = some (.int .i64 (nd l i).num) ∧ w.cell? ⟨b, o + i * 5 + 3, none⟩ = some (.slice ka (nd l i).kids.length kc) ∧ w.cell? ⟨b, o + i * 5 + 4, none⟩ = some (.int .i64 (nd l i).at') ∧ KidsAt w M ka (nd l i).kids ∧ b < w.heap.size) := fun w hw => by
        have hB := (unhide HK w hw).1
        exact ⟨(hB.cell (p := ⟨b, o + i * 5, none⟩) hbW).trans d0, (hB.cell (p := ⟨b, o + i * 5 + 1, none⟩) hbW).trans d1, (hB.cell (p := ⟨b, o + i * 5 + 2, none⟩) hbW).trans d2, (hB.cell (p := ⟨b, o + i * 5 + 3, none⟩) hbW).trans d3, (hB.cell (p := ⟨b, o + i * 5 + 4, none⟩) hbW).trans d4, hK.keep hB hM, by have := hB.size; omega⟩
      obtain ⟨nk, hnk⟩ : ∃ nk, (nd l i).kids.length = nk := ⟨_, rfl⟩
      have hnk3 : nk ≤ 3000 := by
        have := ((unhide HSZ).2 (nd l i) (by simp only [nd, List.getD_eq_getElem?_getD, List.getElem?_eq_getElem hlt]; exact List.getElem_mem hlt)).2
        omega
      rw [hnk] at HND
      have HNK := hide hnk
      clear hv hK d0 d1 d2 d3 d4 hkids hnk
      go_wp2
      go_loopw [8, 9] (fun t8 t9 wq => ∃ (j : Nat) (xs : List (Value × List NE)), j ≤ nk ∧ t9 = .int .i64 (j : Int) ∧ TRow wq (W.heap.size + 1) t8 xs ∧ xs.map (fun x => x.2.map NE.x) = (kidsT l i).take j ∧ Below (W.heap.size + 1) W1 wq) (fun _ t9 _ => nk - (intOf t9).toNat)
      case atStart => exact ⟨0, [], Nat.zero_le _, rfl, TRow.nil _ _, rfl, hBr⟩
      case round =>
        obtain ⟨j, xs, hjl, rfl, hT, hxs, hBq⟩ := hrel
        obtain ⟨q1, q2, q3⟩ := unhide HK wr hBq
        obtain ⟨d0, d1, d2, d3, d4, hKq, hbq⟩ := unhide HND wr hBq
        have HT := hide hT
        have HXS := hide hxs
        clear hT hxs
        by_cases hjlt : j < nk
        · have hjlt' : (j : Int) < nk := by omega
          have hj0 : (0 : Int) ≤ (j : Int) := by omega
          rcases hKq with h | ⟨kb, ko, rfl, hkb, hkc0⟩
          · rw [h] at HNK; simp [Hid] at HNK; omega
          obtain ⟨q, hq⟩ : ∃ q : Nat, (nd l i).kids.getD j 0 = (q : Int) := by
            have h1 := unhide HNK
            have h2 := unhide HKD ((nd l i).kids.getD j 0) (by rw [List.getD_eq_getElem?_getD, List.getElem?_eq_getElem (by omega)]; exact List.getElem_mem _)
            exact ⟨_, (Int.toNat_of_nonneg (ins_iff'.1 h2).1).symm⟩
          have hql : q < l.length := by
            have h1 := unhide HNK
            have h2 := unhide HKD ((nd l i).kids.getD j 0) (by rw [List.getD_eq_getElem?_getD, List.getElem?_eq_getElem (by omega)]; exact List.getElem_mem _)
            rw [hq] at h2
            have := (ins_iff'.1 h2).2
            omega
          have dk := hkc0 j (by rw [unhide HNK]; exact hjlt)
          rw [hq] at dk
          have HQ := hide hq
          have hkbw : kb < wr.heap.size := by omega
          clear hkc0 hq
          go_wp2
          have hBd := hBq.drew
          have hBa : Below (W.heap.size + 1) W1 (wr.drew.alloc (.cells #[.slice none 0 0] 24)) := hBd.alloc (by show _ ≤ wr.heap.size; omega) _
          have HS1 := hide (unhide HS _ hBd q hql)
          have HLL : Hid (∀ es' : List NE, es'.map NE.x = subT l q → 0 < es'.length) := fun es' he => by
            have h1 := congrArg List.length he
            have h2 := (unhide HFA q hql).le
            rw [List.length_map, subT_len (unhide HFA q hql)] at h1
            omega
          have HS2 := hide (unhide HS _ hBa q hql)
          have HLX : xs.length = j := by
            have := congrArg List.length (unhide HXS)
            rw [List.length_map, List.length_take] at this
            have h2 : (kidsT l i).length = nk := by simp [kidsT, unhide HNK]
            omega
          have HSS : Hid (∀ w', Below wr.heap.size wr w' → w'.cell? ⟨W.heap.size, 0, none⟩ = some (.slice (some ⟨b, o, none⟩) l.length cap') ∧ w'.cell? ⟨b, o + i * 5 + 3, none⟩ = some (.slice (some ⟨kb, ko, none⟩) nk kc) ∧ w'.cell? ⟨kb, ko + j, none⟩ = some (.int .i64 (q : Int))) := fun w' h => ⟨(h.cell (p := ⟨W.heap.size, 0, none⟩) q3).trans q2, (h.cell (p := ⟨b, o + i * 5 + 3, none⟩) hbq).trans d3, (h.cell (p := ⟨kb, ko + j, none⟩) hkbw).trans dk⟩
          go_region_held3 (fun w' => w'.cell? ⟨W.heap.size, 0, none⟩ = some (.slice (some ⟨b, o, none⟩) l.length cap') ∧ w'.cell? ⟨b, o + i * 5 + 3, none⟩ = some (.slice (some ⟨kb, ko, none⟩) nk kc) ∧ w'.cell? ⟨kb, ko + j, none⟩ = some (.int .i64 (q : Int)))
            (first
              | assumption
              | exact unhide HSS _ (Below.refl _ _).drew
              | exact unhide HSS _ ((Below.refl _ wr).drew.alloc (Nat.le_refl _) _)
              | exact unhide HSS _ hb6
              | exact unhide HSS _ (hb6.alloc hb6.size _)
              | exact unhide HSS _ (hb6.setCell (p := ⟨wr.heap.size, 0, none⟩) (Nat.le_refl _) _)
              | exact unhide HSS _ ((hb6.alloc hb6.size _).setCell (p := ⟨w6.heap.size, 0, none⟩) hb6.size _)
              | go_keep)
            ((go_at_call 25; first | (refine (unhide HS1).mono ?_; rintro e w6 ⟨v', es', rfl, hm6, hO6, hB6⟩; obtain ⟨g6, n6, c6, rfl⟩ := own_slice hO6 (unhide HLL es' hm6); have HM6 := hide hm6; have HO6 := hide hO6; have HB6 := hide hB6; have hb6 : Below wr.heap.size wr w6 := (Below.refl _ wr).drew.trans (unhide HB6); clear hm6 hO6 hB6) | (refine (unhide HS2).mono ?_; rintro e w6 ⟨v', es', rfl, hm6, hO6, hB6⟩; obtain ⟨g6, n6, c6, rfl⟩ := own_slice hO6 (unhide HLL es' hm6); have HM6 := hide hm6; have HO6 := hide hO6; have HB6 := hide hB6; obtain ⟨cX, fX, sX⟩ := box_keep hB6; have hb6 : Below wr.heap.size wr w6 := ((Below.refl _ wr).drew.alloc (Nat.le_refl _) _).trans ((unhide HB6).mono (by show wr.heap.size ≤ (wr.drew.alloc _).heap.size; rw [World.size_alloc]; exact Nat.le_succ _)); clear hm6 hO6 hB6)))
          · obtain ⟨w7, hw7⟩ : ∃ w7, w6.alloc (.cells #[.slice (some ⟨g6, 0, none⟩) n6 c6] 24) = w7 := ⟨_, rfl⟩
            have hb7 : Below wr.heap.size wr w7 := by rw [← hw7]; exact hb6.alloc hb6.size _
            have hO7 : OwnN w7 (W.heap.size + 1) (.slice (some ⟨g6, 0, none⟩) n6 c6) es' := by
              rw [← hw7]
              exact ((unhide HO6).keepB ((Below.refl _ w6).alloc (Nat.le_refl _) _)).mono (by show _ ≤ wr.heap.size; omega)
            have c7 : w7.cell? ⟨w6.heap.size, 0, none⟩ = some (.slice (some ⟨g6, 0, none⟩) n6 c6) := by rw [← hw7, Lib.cell_of_heap (at_a1 w6 _)]; rfl
            have s7 : w6.heap.size < w7.heap.size := by rw [← hw7, World.size_alloc]; exact Nat.lt_succ_self _
            have hS0 : True := trivial
            rw [hw7]
            clear hw7
            have hT7 := (unhide HT).keepB hb7
            have HT7 := hide hT7
            have HO7 := hide hO7
            have HB7 := hide hb7
            have hz7 := hb7.size
            clear hT7 hO7 hb7 dk d0 d1 d2 d3 d4
            go_wp2_with (at_builtin; refine wpList_append_lies _ rfl _ _ 50 rfl (W.heap.size + 1) 24 j0 _ 1 24 Tryz.underlying50 hj hy0 hy1 hy2 rfl (by decide) _ _ _ rfl ((unhide HT7).1.alloc _) ⟨w7.heap.size, 0, none⟩ 1 1 [.slice (some ⟨g6, 0, none⟩) n6 c6] rfl rfl ?c1 ?c2 (by decide) ?c3 ?c4 ?c5 _ rfl ?_)
            case c1 =>
              intro j u hj
              rw [Addr.add_lit, Nat.zero_add, World.cell?_alloc_mark]
              rw [← hj]; simp
            case c2 => intro u hu; simp at hu; rcases hu with rfl; rfl
            case c3 => rw [HLX]; unfold maxLen; omega
            case c4 => rw [HLX]; omega
            case c5 => simp; omega
            intro g9 cap9 w9 hown9 hg9 hat9 hlt9
            have hTn := TRow.snoc (u' := .slice (some ⟨g9, 0, none⟩) (j + 1) cap9) (es := es') ((unhide HT7).keepB ((Below.refl _ w7).alloc (Nat.le_refl _) (.cells #[.slice (some ⟨g6, 0, none⟩) n6 c6] 24))) ((unhide HO7).keepB ((Below.refl _ w7).alloc (Nat.le_refl _) _)) (by rw [HLX]; exact hown9) hg9
            have hB9 : Below (W.heap.size + 1) W1 w9 := ((hBq.trans ((unhide HB7).mono (by omega))).alloc (by omega) _).grown hg9 (by simp; omega) (fun k hk => ((unhide HT7).1.lt k hk).1)
            have HTN := hide hTn
            have HB9 := hide hB9
            clear hTn hB9 hown9 hg9 hat9
            go_wp2
            refine ⟨⟨j + 1, xs ++ [(.slice (some ⟨g6, 0, none⟩) n6 c6, es')], by omega, by go_num, unhide HTN, ?_, unhide HB9⟩, by simp [intOf]; omega⟩
            rw [List.map_append, unhide HXS, kidsT_take (by rw [unhide HNK]; exact hjlt) (unhide HQ)]
            simp [unhide HM6]
          · obtain ⟨w7, hw7⟩ : ∃ w7, w6.setCell ⟨wr.heap.size, 0, none⟩ (.slice (some ⟨g6, 0, none⟩) n6 c6) = w7 := ⟨_, rfl⟩
            have hb7 : Below wr.heap.size wr w7 := by rw [← hw7]; exact hb6.setCell (p := ⟨wr.heap.size, 0, none⟩) (Nat.le_refl _) _
            have hO7 : OwnN w7 (W.heap.size + 1) (.slice (some ⟨g6, 0, none⟩) n6 c6) es' := by
              rw [← hw7]
              have hz : (wr.drew.alloc (.cells #[.slice none 0 0] 24)).heap.size = wr.heap.size + 1 := World.size_alloc wr.drew _
              have := unhide HO6
              rw [hz] at this
              exact (this.setLow (Nat.lt_succ_self _)).mono (by omega)
            have c7 : w7.cell? ⟨wr.heap.size, 0, none⟩ = some (.slice (some ⟨g6, 0, none⟩) n6 c6) := by rw [← hw7]; exact set_read cX
            have s7 : wr.heap.size < w7.heap.size := by rw [setCell_size hw7]; exact sX
            have hS0 : True := trivial
            rw [hw7]
            clear hw7
            have hT7 := (unhide HT).keepB hb7
            have HT7 := hide hT7
            have HO7 := hide hO7
            have HB7 := hide hb7
            have hz7 := hb7.size
            clear hT7 hO7 hb7 dk d0 d1 d2 d3 d4
            go_wp2_with (at_builtin; refine wpList_append_lies _ rfl _ _ 50 rfl (W.heap.size + 1) 24 j0 _ 1 24 Tryz.underlying50 hj hy0 hy1 hy2 rfl (by decide) _ _ _ rfl ((unhide HT7).1.alloc _) ⟨w7.heap.size, 0, none⟩ 1 1 [.slice (some ⟨g6, 0, none⟩) n6 c6] rfl rfl ?c1 ?c2 (by decide) ?c3 ?c4 ?c5 _ rfl ?_)
            case c1 =>
              intro j u hj
              rw [Addr.add_lit, Nat.zero_add, World.cell?_alloc_mark]
              rw [← hj]; simp
            case c2 => intro u hu; simp at hu; rcases hu with rfl; rfl
            case c3 => rw [HLX]; unfold maxLen; omega
            case c4 => rw [HLX]; omega
            case c5 => simp; omega
            intro g9 cap9 w9 hown9 hg9 hat9 hlt9
            have hTn := TRow.snoc (u' := .slice (some ⟨g9, 0, none⟩) (j + 1) cap9) (es := es') ((unhide HT7).keepB ((Below.refl _ w7).alloc (Nat.le_refl _) (.cells #[.slice (some ⟨g6, 0, none⟩) n6 c6] 24))) ((unhide HO7).keepB ((Below.refl _ w7).alloc (Nat.le_refl _) _)) (by rw [HLX]; exact hown9) hg9
            have hB9 : Below (W.heap.size + 1) W1 w9 := ((hBq.trans ((unhide HB7).mono (by omega))).alloc (by omega) _).grown hg9 (by simp; omega) (fun k hk => ((unhide HT7).1.lt k hk).1)
            have HTN := hide hTn
            have HB9 := hide hB9
            clear hTn hB9 hown9 hg9 hat9
            go_wp2
            refine ⟨⟨j + 1, xs ++ [(.slice (some ⟨g6, 0, none⟩) n6 c6, es')], by omega, by go_num, unhide HTN, ?_, unhide HB9⟩, by simp [intOf]; omega⟩
            rw [List.map_append, unhide HXS, kidsT_take (by rw [unhide HNK]; exact hjlt) (unhide HQ)]
            simp [unhide HM6]
        · have hjlt' : ¬ (j : Int) < nk := by omega
          obtain rfl : j = nk := by omega
          have hxl : (kidsT l i).take j = kidsT l i := List.take_of_length_le (by simp [kidsT, unhide HNK])
          have hxs : xs.map (fun x => x.2.map NE.x) = kidsT l i := (unhide HXS).trans hxl
          have HLX : xs.length = (kidsT l i).length := by rw [← hxs]; simp
          have HLJ : (kidsT l i).length = j := by simp [kidsT, unhide HNK]
          obtain ⟨a8, c8, rfl⟩ := (unhide HT).form
          have HX := hide hxs
          have HLL : Hid (∀ es' : List NE, es'.map NE.x = subT l i → 0 < es'.length) := fun es' he => by
            have h1 := congrArg List.length he
            have h2 := (unhide HFA i hlt).le
            rw [List.length_map, subT_len (unhide HFA i hlt)] at h1
            omega
          have HS1 := hide (unhide HS _ hBq i hlt)
          clear hxl hxs hKq
          go_wp2_with (go_at_call 25; refine (unhide HS1).mono ?_; rintro e w6 ⟨v', es', rfl, hm6, hO6, hB6⟩; obtain ⟨g6, n6, c6, rfl⟩ := own_slice hO6 (unhide HLL es' hm6); have HM6 := hide hm6; have HO6 := hide hO6; have HB6 := hide hB6; clear hm6 hO6 hB6)
          obtain ⟨w7, hw7⟩ : ∃ w7, w6.alloc (.cells #[.slice (some ⟨g6, 0, none⟩) n6 c6] 24) = w7 := ⟨_, rfl⟩
          have hb7 : Below wr.heap.size wr w7 := by rw [← hw7]; exact (unhide HB6).alloc (unhide HB6).size _
          have hO7 : OwnN w7 wr.heap.size (.slice (some ⟨g6, 0, none⟩) n6 c6) es' := by
            rw [← hw7]
            exact (unhide HO6).keepB ((Below.refl _ w6).alloc (Nat.le_refl _) _)
          have c7 : w7.cell? ⟨w6.heap.size, 0, none⟩ = some (.slice (some ⟨g6, 0, none⟩) n6 c6) := by rw [← hw7, Lib.cell_of_heap (at_a1 w6 _)]; rfl
          have s7 : w6.heap.size < w7.heap.size := by rw [← hw7, World.size_alloc]; exact Nat.lt_succ_self _
          rw [hw7]
          clear hw7
          have hBw7 : Below (W.heap.size + 1) W1 w7 := hBq.trans (hb7.mono (by omega))
          have hfi := unhide HFA i hlt
          have hszi := (unhide HSZ).sub hfi
          have HTR : TreesAt w7 w7.heap.size a8 (kidsT l i) := ((unhide HT).keepB hb7).trees (unhide HX) (fun t ht => by
            obtain ⟨k, hk, rfl⟩ := List.mem_map.1 ht
            exact (unhide HSZ).sub (unhide HFA _ (ins_iff.1 (unhide HKD k hk)).2))
          have HMK : Hid (Calls Tryz.prog 26 #[.agg #[.int .i64 (nd l i).kind, .string (nd l i).text, .int .i64 (nd l i).num, .slice ka j kc, .int .i64 (nd l i).at'], .slice a8 j c8] w7.drew (MakeQ (nd l i) (kidsT l i) w7.drew)) := by
            have hm := mk_len (kidsT l i) (kidsT l i).length
            have h1 := congrArg List.length (make_kids (l := l) (by omega) hfi)
            rw [subT_len hfi] at h1
            simp only [makeT, List.length_cons] at h1
            have h2 := hfi.le
            have := make_any (nd l i) (.slice ka j kc) ka j kc (kidsT l i) a8 c8 w7.heap.size w7.drew rfl (Nat.le_refl _) (HTR.keep (Below.refl w7.heap.size w7).drew (Nat.le_refl _)) (by have := ((unhide HN).2.1 i hlt).1; exact this) (by omega) (by omega)
            rwa [HLJ] at this
          have HSM : Hid (∀ (w8 : World) (g8 n8 c8 : Nat) (es8 : List NE), Below w7.heap.size w7 w8 → es8.map NE.x = makeT (nd l i) (kidsT l i) → OwnN w8 w7.drew.heap.size (.slice (some ⟨g8, 0, none⟩) n8 c8) es8 → Calls Tryz.prog 11 #[.agg #[.slice (some ⟨g8, 0, none⟩) n8 c8], .agg #[.slice (some ⟨g6, 0, none⟩) n6 c6]] w8 fun e w9 => e = .returned (.bool true) ∧ Below w8.heap.size w8 w9) := fun w8 g8 n8 c8 es8 hb hm ho => by
            rw [make_kids (by omega) hfi] at hm
            have := same_any w8 w8.heap.size _ _ (subT l i) (subT l i) (ho.nodesZ hm hszi) ((hO7.keepB hb).nodesZ (unhide HM6) hszi) (Nat.le_refl _)
            rwa [sameT_refl] at this
          have HLM : Hid (∀ es' : List NE, es'.map NE.x = makeT (nd l i) (kidsT l i) → 0 < es'.length) := fun es' he => by
            rw [make_kids (by omega) hfi] at he
            exact unhide HLL es' he
          have HSS : Hid (∀ w', Below w7.heap.size w7 w' → w'.cell? ⟨W.heap.size, 0, none⟩ = some (.slice (some ⟨b, o, none⟩) l.length cap') ∧ w'.cell? ⟨b, o + i * 5, none⟩ = some (.int .i64 (nd l i).kind) ∧ w'.cell? ⟨b, o + i * 5 + 1, none⟩ = some (.string (nd l i).text) ∧ w'.cell? ⟨b, o + i * 5 + 2, none⟩ = some (.int .i64 (nd l i).num) ∧ w'.cell? ⟨b, o + i * 5 + 3, none⟩ = some (.slice ka j kc) ∧ w'.cell? ⟨b, o + i * 5 + 4, none⟩ = some (.int .i64 (nd l i).at') ∧ w'.cell? ⟨w6.heap.size, 0, none⟩ = some (.slice (some ⟨g6, 0, none⟩) n6 c6)) := fun w' h => by
            have h1 := hBw7.trans (h.mono (by have := hBw7.size; omega))
            obtain ⟨e0, e1, e2, e3, e4, _, _⟩ := unhide HND w' h1
            exact ⟨(unhide HK w' h1).2.1, e0, e1, e2, e3, e4, (h.cell (p := ⟨w6.heap.size, 0, none⟩) s7).trans c7⟩
          have HB7 := hide hBw7
          have hz7 := hBw7.size
          clear HTR hszi hfi hO7 hb7 d0 d1 d2 d3 d4 hBw7
          go_region_held3 (fun w' => w'.cell? ⟨W.heap.size, 0, none⟩ = some (.slice (some ⟨b, o, none⟩) l.length cap') ∧ w'.cell? ⟨b, o + i * 5, none⟩ = some (.int .i64 (nd l i).kind) ∧ w'.cell? ⟨b, o + i * 5 + 1, none⟩ = some (.string (nd l i).text) ∧ w'.cell? ⟨b, o + i * 5 + 2, none⟩ = some (.int .i64 (nd l i).num) ∧ w'.cell? ⟨b, o + i * 5 + 3, none⟩ = some (.slice ka j kc) ∧ w'.cell? ⟨b, o + i * 5 + 4, none⟩ = some (.int .i64 (nd l i).at') ∧ w'.cell? ⟨w6.heap.size, 0, none⟩ = some (.slice (some ⟨g6, 0, none⟩) n6 c6))
            (first
              | assumption
              | exact unhide HSS _ (Below.refl _ _).drew
              | exact unhide HSS _ hb9
              | exact unhide HSS _ hb8)
            ((first
              | (go_at_call 26; refine (unhide HMK).mono ?_; rintro e w8 ⟨v8, es8, rfl, hm8, hO8, hB8⟩; obtain ⟨g8, n8, cc8, rfl⟩ := own_slice hO8 (unhide HLM es8 hm8); have hb8 : Below w7.heap.size w7 w8 := (Below.refl _ w7).drew.trans hB8; have HS8 := hide (unhide HSM w8 g8 n8 cc8 es8 hb8 hm8 hO8); clear hm8 hO8 hB8)
              | (go_at_call 11; refine (unhide HS8).mono ?_; rintro e w9 ⟨rfl, hB9⟩; have hb9 : Below w7.heap.size w7 w9 := hb8.trans (hB9.mono hb8.size))))
          go_wp2
          refine ⟨⟨i + 1, by omega, by go_num, (unhide HB7).trans (hb9.mono (by omega))⟩, by simp [intOf]; omega⟩
    · have hlt' : ¬ (i : Int) < l.length := by omega
      obtain rfl : i = l.length := by omega
      have HS1 := hide (unhide HS _ hBr 0 hl0)
      have HLL : Hid (∀ es' : List NE, es'.map NE.x = subT l 0 → 0 < es'.length) := fun es' he => by
        have h1 := congrArg List.length he
        rw [unhide HZ, List.length_map] at h1
        omega
      have HSM : Hid (∀ (w8 : World) (v8 : Value) (es8 : List NE), Below (W.heap.size + 1) W1 w8 → es8.map NE.x = subT l 0 → OwnN w8 w0.heap.size v8 es8 → Calls Tryz.prog 11 #[.agg #[v8], .agg #[.slice va l.length vc]] w8 fun e w9 => e = .returned (.bool true) ∧ Below w8.heap.size w8 w9) := fun w8 v8 es8 hb hm ho => by
        rw [unhide HZ] at hm
        obtain ⟨p1, p2, p3⟩ := unhide HK w8 hb
        have := same_any w8 w8.heap.size _ _ l l (ho.nodesZ hm (unhide HSZ)) (((unhide HN).keep p1 hM).mono (by omega)) (Nat.le_refl _)
        rwa [sameT_refl] at this
      go_wp2_with (first
        | (go_at_call 25; refine (unhide HS1).mono ?_; rintro e w6 ⟨v', es', rfl, hm6, hO6, hB6⟩; obtain ⟨g6, n6, c6, rfl⟩ := own_slice hO6 (unhide HLL es' hm6); have HM6 := hide hm6; have HO6 := hide hO6; have HB6 := hide hB6; have hb7 : Below (W.heap.size + 1) W1 (w6.alloc (.cells #[.slice (some ⟨g6, 0, none⟩) n6 c6] 24)) := (hBr.trans (hB6.mono (by omega))).alloc (by have := hB6.size; omega) _; obtain ⟨p1, p2, p3⟩ := unhide HK _ hb7; clear hm6 hO6 hB6)
        | (go_at_call 11; refine (unhide HSM _ _ es' hb7 (unhide HM6) ((unhide HO6).keepB ((Below.refl _ w6).alloc (Nat.le_refl _) _))).mono ?_; rintro e w8 ⟨rfl, hB8⟩)
        | (go_at_call 13; refine (known3_any w8).mono ?_; rintro e w9 ⟨rfl, hB9⟩))
      go_ret
      exact ⟨rfl, p1.trans ((hB8.mono (by omega)).trans (hB9.mono (by have := hB8.size; omega)))⟩
end Go.Proofs.YtoffpbaddehncaaGreatDoor

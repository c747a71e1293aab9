/- The law TreeSames, walked. -/
import Derived.LoopN
import Derived.BigRegion
import Derived.Deep.QuietTactic
import Derived.BigQuiet
import Derived.StillTailTactics
import Derived.Test.YtoffpbaddehncaaGreatDoorTH
import Derived.Test.YtoffpbaddehncaaGreatDoorUA
import Derived.Test.YtoffpbaddehncaaGreatDoorTZc
namespace Go.Proofs.YtoffpbaddehncaaGreatDoor
set_option linter.unusedSimpArgs false
set_option linter.unusedVariables false
open Go.RowKit Go.Shelf

theorem ownN_drew {w : World} {B : Nat} {v : Value} {es : List NE} (h : OwnN w B v es) : OwnN w.drew B v es := h
theorem lent_any (W : World) (M : Nat) (v : Value) (l : List Nd) (hN : Nodes W M v l) (hM : M ≤ W.heap.size) (hsz : szN l l.length ≤ 3000) : Calls Tryz.prog 10 #[.agg #[v]] W (LentQ l W) := by
  by_cases h : l = []
  · subst h
    obtain ⟨a, cap, rfl, _, _⟩ := hN.len
    exact lent_nil W a cap
  · exact lent_cons W M v l hN hM hsz h

set_option maxRecDepth 100000 in
set_option maxHeartbeats 4000000 in
theorem sames_any (W : World) (M : Nat) (v v' : Value) (l m : List Nd) (hN : Nodes W M v l) (hN' : Nodes W M v' m) (hM : M ≤ W.heap.size) :
    Calls Tryz.prog 3 #[.agg #[v], .agg #[v']] W fun e w' => e = .returned (.bool true) ∧ Below W.heap.size W w' := by
  have HN := hide hN
  have HN' := hide hN'
  obtain ⟨a, cap, rfl, _, _⟩ := hN.len
  obtain ⟨a', cap', rfl, _, _⟩ := hN'.len
  obtain ⟨W1, hW1⟩ : ∃ W1, (W.alloc (.cells #[.slice a l.length cap] 24)).alloc (.cells #[.slice a' m.length cap'] 24) = W1 := ⟨_, rfl⟩
  have hB1 : Below W.heap.size W W1 := by rw [← hW1]; exact ((Below.refl _ W).alloc (Nat.le_refl _) _).alloc (by simp) _
  have hz1 : W1.heap.size = W.heap.size + 1 + 1 := by rw [← hW1]; simp
  have hbx : W1.cell? ⟨W.heap.size, 0, none⟩ = some (.slice a l.length cap) := by rw [← hW1, Lib.cell_of_heap (at_a2 W _ _)]; rfl
  have hby : W1.cell? ⟨W.heap.size + 1, 0, none⟩ = some (.slice a' m.length cap') := by rw [← hW1, Lib.cell_of_heap (at_a3 W _ _)]; rfl
  have hKB : ∀ w', Below (W.heap.size + 1 + 1) W1 w' → Below W.heap.size W w' ∧ w'.cell? ⟨W.heap.size, 0, none⟩ = some (.slice a l.length cap) ∧ w'.cell? ⟨W.heap.size + 1, 0, none⟩ = some (.slice a' m.length cap') ∧ W.heap.size + 1 + 1 ≤ w'.heap.size := fun w' h =>
    ⟨hB1.trans (h.mono (by omega)), (h.cell (p := ⟨W.heap.size, 0, none⟩) (by show W.heap.size < _; omega)).trans hbx, (h.cell (p := ⟨W.heap.size + 1, 0, none⟩) (by show W.heap.size + 1 < _; omega)).trans hby, by have := h.size; omega⟩
  have HKB := hide hKB
  have HG1 : Hid (∀ w', Below (W.heap.size + 1 + 1) W1 w' → Calls Tryz.prog 9 #[.agg #[.slice a l.length cap]] w' fun e w2 => e = .returned (.bool (decide (3000 < szN l l.length))) ∧ Below w'.heap.size w' w2) := fun w' h => by
    obtain ⟨h1, _, _, h4⟩ := hKB w' h
    exact great_any w' M _ l (hN.keep h1 hM) (by omega)
  have HG2 : Hid (∀ w', Below (W.heap.size + 1 + 1) W1 w' → Calls Tryz.prog 9 #[.agg #[.slice a' m.length cap']] w' fun e w2 => e = .returned (.bool (decide (3000 < szN m m.length))) ∧ Below w'.heap.size w' w2) := fun w' h => by
    obtain ⟨h1, _, _, h4⟩ := hKB w' h
    exact great_any w' M _ m (hN'.keep h1 hM) (by omega)
  have HW1 := hide hW1
  have HB1 := hide hB1
  clear hW1 hKB hN hN' hB1
  cases ha : decide (3000 < szN l l.length) with
  | true =>
    have HA := hide ha
    clear ha
    go_enter Tryz.func3, Tryz.ntmps3
    go_wp2_with (go_at_call 9; rw [unhide HW1]; refine (unhide HG1 W1 (Below.refl _ _)).mono ?_; rw [unhide HA]; rintro e w2 ⟨rfl, hb2⟩)
    go_ret
    exact ⟨rfl, (unhide HB1).trans (hb2.mono (by omega))⟩
  | false =>
    have hal : szN l l.length ≤ 3000 := by simpa using ha
    have HA := hide ha
    clear ha
    cases hbb : decide (3000 < szN m m.length) with
    | true =>
      have HBB := hide hbb
      clear hbb
      go_enter Tryz.func3, Tryz.ntmps3
      go_wp2_with (first | (go_at_call_of 9 l; rw [unhide HW1]; refine (unhide HG1 W1 (Below.refl _ _)).mono ?_; rw [unhide HA]; rintro e w2 ⟨rfl, hb2⟩; have hb2' := hb2.mono (show W.heap.size + 1 + 1 ≤ W1.heap.size by omega); have cy2 := (unhide HKB w2 hb2').2.2.1) | (go_at_call_of 9 m; refine (unhide HG2 w2 hb2').mono ?_; rw [unhide HBB]; rintro e w3 ⟨rfl, hb3⟩))
      go_ret
      exact ⟨rfl, (unhide HB1).trans ((hb2.mono (by omega)).trans (hb3.mono (by have := hb2.size; omega)))⟩
    | false =>
      have HBB := hide hbb
      clear hbb
      have HL : Hid (∀ w', Below (W.heap.size + 1 + 1) W1 w' → Calls Tryz.prog 10 #[.agg #[.slice a l.length cap]] w' (LentQ l w')) := fun w' h => by
        obtain ⟨h1, _, _, h4⟩ := unhide HKB w' h
        exact lent_any w' M _ l ((unhide HN).keep h1 hM) (by omega) hal
      have hll : l.length ≤ 3000 := Nat.le_trans (szN_len l l.length) hal
      go_enter Tryz.func3, Tryz.ntmps3
      go_wp2_with (first | (go_at_call_of 9 l; rw [unhide HW1]; refine (unhide HG1 W1 (Below.refl _ _)).mono ?_; rw [unhide HA]; rintro e w2 ⟨rfl, hb2⟩; have hb2' := hb2.mono (show W.heap.size + 1 + 1 ≤ W1.heap.size by omega); have cx2 := (unhide HKB w2 hb2').2.1; have cy2 := (unhide HKB w2 hb2').2.2.1; have hz2 := (unhide HKB w2 hb2').2.2.2) | (go_at_call_of 9 m; refine (unhide HG2 w2 hb2').mono ?_; rw [unhide HBB]; rintro e w3 ⟨rfl, hb3⟩; have hb3' := hb2'.trans (hb3.mono hz2); have cx3 := (unhide HKB w3 hb3').2.1; have hz3 := (unhide HKB w3 hb3').2.2.2) | (go_at_call 10; refine (unhide HL w3 hb3').mono ?_; rintro e w4 ⟨g, cap4, es, rfl, hmap, hownN, hb4⟩; have HMAP := hide hmap; have HOWN := hide hownN; clear hmap hownN))
      obtain ⟨W5, hW5⟩ : ∃ W5, w4.alloc (.cells #[.slice (some ⟨g, 0, none⟩) l.length cap4] 24) = W5 := ⟨_, rfl⟩
      have hz4 := hb4.size
      have hb45 : Below w4.heap.size w4 W5 := by rw [← hW5]; exact (Below.refl _ w4).alloc (Nat.le_refl _) _
      have hc5 : W5.heap[w4.heap.size]? = some (.cells #[.slice (some ⟨g, 0, none⟩) l.length cap4] 24) := by rw [← hW5]; exact at_a1 w4 _
      have hz5 : w4.heap.size < W5.heap.size := by rw [← hW5]; simp
      rw [hW5]
      have hglt : g < w4.heap.size := ((unhide HOWN).1.lt g rfl).2
      have hgge : w3.heap.size + 1 + 1 ≤ g := ((unhide HOWN).1.lt g rfl).1
      have H0 : Hid (AtOnly l (es.map NE.x) ∧ OwnN W5 (w3.heap.size + 1 + 1) (.slice (some ⟨g, 0, none⟩) l.length cap4) es ∧ Below w3.heap.size w3 W5 ∧ W5.heap[w4.heap.size]? = some (.cells #[.slice (some ⟨g, 0, none⟩) l.length cap4] 24)) := by
        refine ⟨by rw [unhide HMAP]; exact AtOnly.refl l, ⟨?_, fun e he => ((unhide HOWN).2 e he).below hb45⟩, hb4.trans (hb45.mono hz4), hc5⟩
        exact ownsRow_heap (unhide HOWN).1 fun k hk => by
          have : k = g := by simpa [Value.ownBlock] using hk.symm
          subst this
          exact hb45.block _ hglt
      clear hW5 hb45 hc5
      go_wp2
      go_loopw [6] (fun t wr => ∃ (i : Nat) (fs : List NE), i ≤ l.length ∧ t = .int .i64 (i : Int) ∧ AtOnly l (fs.map NE.x) ∧ OwnN wr (w3.heap.size + 1 + 1) (.slice (some ⟨g, 0, none⟩) l.length cap4) fs ∧ Below w3.heap.size w3 wr ∧ wr.heap[w4.heap.size]? = some (.cells #[.slice (some ⟨g, 0, none⟩) l.length cap4] 24)) (fun t _ => l.length - (intOf t).toNat)
      case atStart => exact ⟨0, es, Nat.zero_le _, rfl, (unhide H0).1, (unhide H0).2.1, (unhide H0).2.2.1, (unhide H0).2.2.2⟩
      case round =>
        obtain ⟨i, fs, hil, rfl, hat, hown, hb, hbox⟩ := hrel
        have cbx : wr.cell? ⟨w4.heap.size, 0, none⟩ = some (.slice (some ⟨g, 0, none⟩) l.length cap4) := by rw [Lib.cell_of_heap hbox]; rfl
        have hbl : w4.heap.size < wr.heap.size := (Array.getElem?_eq_some_iff.1 hbox).1
        have hfl : fs.length = l.length := by have := hat.1; simpa using this.symm
        have hown1 := hown.1
        rw [hfl] at hown1
        have HAT := hide hat
        have HOW := hide hown
        have HBX := hide hbox
        have HFL := hide hfl
        clear hat hown hbox hfl
        by_cases hlt : i < l.length
        · have hlt' : (i : Int) < l.length := by omega
          have hi0' : (0 : Int) ≤ (i : Int) := Int.natCast_nonneg _
          obtain ⟨e0, he0⟩ : ∃ e0, fs[i]? = some e0 := ⟨_, List.getElem?_eq_getElem (by rw [unhide HFL]; exact hlt)⟩
          obtain ⟨x, ka, kc⟩ := e0
          have c4 : wr.cell? ⟨g, i * 5 + 4, none⟩ = some (.int .i64 x.at') := by rw [hown1.cellAt (i * 5 + 4) (by omega), flatN_get fs i _ he0 4 (by omega)]; rfl
          have f4 : wr.frozen? ⟨g, i * 5 + 4, none⟩ = false := hown1.frozenAt _
          have hgl : g < wr.heap.size := by omega
          have HE0 := hide he0
          clear he0 hown1
          go_wp2
          go_still_tail 12, (by kernel_rfl)
          generalize hzz : IntKind.i64.wrap (x.at' + 7) = z
          clear hzz
          have HOZ := hide (ownN_drew ((unhide HOW).setAt (unhide HFL) (unhide HE0) z))
          go_wp2
          refine ⟨⟨i + 1, fs.set i ⟨{ x with at' := z }, ka, kc⟩, by omega, by go_num, atOnly_set (unhide HAT) (unhide HE0), unhide HOZ, (hb.setCell (p := ⟨g, i * 5 + 4, none⟩) (by show w3.heap.size ≤ g; omega) _).drew, ?_⟩, by simp [intOf]; omega⟩
          exact (Below.heap_setCell wr ⟨g, i * 5 + 4, none⟩ _ w4.heap.size (by show w4.heap.size ≠ g; omega)).trans (unhide HBX)
        · have hlt' : ¬ (i : Int) < l.length := by omega
          obtain ⟨hBW, cx, cy, hzw⟩ := unhide HKB wr (hb3'.trans (hb.mono hz3))
          have hMw : M ≤ wr.heap.size := by omega
          have HNa := hide ((unhide HN).keep hBW hM)
          have HNb := hide ((unhide HN').keep hBW hM)
          have HNc : Hid (Nodes wr wr.heap.size (.slice (some ⟨g, 0, none⟩) l.length cap4) (fs.map NE.x)) := by
            refine (unhide HOW).nodes (by rw [unhide HFL]; omega) fun e he => ?_
            obtain ⟨j, hj⟩ := List.getElem?_of_mem he
            have hjl : j < l.length := by rw [← unhide HFL]; exact (List.getElem?_eq_some_iff.1 hj).1
            obtain ⟨_, ht, _, hk⟩ := (unhide HAT).2 j hjl
            have e1 : nd (fs.map NE.x) j = e.x := by simp [nd, List.getD_eq_getElem?_getD, hj]
            rw [e1] at ht hk
            rw [← ht, ← hk]
            exact (unhide HN).2.1 j hjl
          have HC : Hid (∀ w', Below wr.heap.size wr w' → w'.cell? ⟨W.heap.size, 0, none⟩ = some (.slice a l.length cap) ∧ w'.cell? ⟨W.heap.size + 1, 0, none⟩ = some (.slice a' m.length cap') ∧ w'.cell? ⟨w4.heap.size, 0, none⟩ = some (.slice (some ⟨g, 0, none⟩) l.length cap4)) := fun w' h =>
            ⟨(h.cell (p := ⟨W.heap.size, 0, none⟩) (by show W.heap.size < _; omega)).trans cx, (h.cell (p := ⟨W.heap.size + 1, 0, none⟩) (by show W.heap.size + 1 < _; omega)).trans cy, (h.cell (p := ⟨w4.heap.size, 0, none⟩) hbl).trans cbx⟩
          have HAC := hide (unhide HAT).same
          have HCA := hide (unhide HAT).symm.same
          have HBS := hide (AtOnly.refl m).same
          have HM1 : Hid (∀ (v1 v2 : Value) (l1 l2 : List Nd), Nodes wr wr.heap.size v1 l1 → Nodes wr wr.heap.size v2 l2 → ∀ w', Below wr.heap.size wr w' → Calls Tryz.prog 11 #[.agg #[v1], .agg #[v2]] w' fun e w2 => e = .returned (.bool (sameT l1 l2)) ∧ Below wr.heap.size wr w2) := fun v1 v2 l1 l2 h1 h2 w' h =>
            (same_any w' wr.heap.size v1 v2 l1 l2 (h1.keep h (Nat.le_refl _)) (h2.keep h (Nat.le_refl _)) h.size).mono fun e w2 q => ⟨q.1, h.trans (q.2.mono h.size)⟩
          have HR1 : Hid (∀ w', Below wr.heap.size wr w' → Calls Tryz.prog 12 #[.agg #[.slice a l.length cap], .agg #[.slice a' m.length cap']] w' fun e w2 => e = .returned (.bool (sameT l m)) ∧ Below wr.heap.size wr w2) := fun w' h =>
            (refSame_any w' wr.heap.size _ _ l m (((unhide HNa).mono hMw).keep h (Nat.le_refl _)) (((unhide HNb).mono hMw).keep h (Nat.le_refl _)) h.size).mono fun e w2 q => ⟨q.1, h.trans (q.2.mono h.size)⟩
          have HK1 : Hid (∀ w', Below wr.heap.size wr w' → Calls Tryz.prog 13 #[] w' fun e w2 => e = .returned (.bool true) ∧ Below wr.heap.size wr w2) := fun w' h =>
            (known3_any w').mono fun e w2 q => ⟨q.1, h.trans (q.2.mono h.size)⟩
          have Hab := hide ((unhide HM1) _ _ l m ((unhide HNa).mono hMw) ((unhide HNb).mono hMw))
          have Hac : Hid (∀ w', Below wr.heap.size wr w' → Calls Tryz.prog 11 #[.agg #[.slice a l.length cap], .agg #[.slice (some ⟨g, 0, none⟩) l.length cap4]] w' fun e w2 => e = .returned (.bool true) ∧ Below wr.heap.size wr w2) := by
            have := (unhide HM1) _ _ l (fs.map NE.x) ((unhide HNa).mono hMw) (unhide HNc)
            rw [unhide HAC] at this
            exact this
          have Hca : Hid (∀ w', Below wr.heap.size wr w' → Calls Tryz.prog 11 #[.agg #[.slice (some ⟨g, 0, none⟩) l.length cap4], .agg #[.slice a l.length cap]] w' fun e w2 => e = .returned (.bool true) ∧ Below wr.heap.size wr w2) := by
            have := (unhide HM1) _ _ (fs.map NE.x) l (unhide HNc) ((unhide HNa).mono hMw)
            rw [unhide HCA] at this
            exact this
          have Hbb : Hid (∀ w', Below wr.heap.size wr w' → Calls Tryz.prog 11 #[.agg #[.slice a' m.length cap'], .agg #[.slice a' m.length cap']] w' fun e w2 => e = .returned (.bool true) ∧ Below wr.heap.size wr w2) := by
            have := (unhide HM1) _ _ m m ((unhide HNb).mono hMw) ((unhide HNb).mono hMw)
            rw [unhide HBS] at this
            exact this
          generalize sameT l m = bS at Hab HR1
          clear hown1
          go_wp2
          clear cx cy cbx
          refine region_C (C := fun w' => Below wr.heap.size wr w') (by kernel_rfl) (by kernel_rfl) (Below.refl _ _).drew ?_
          cases bS
          all_goals (
            repeat (first
              | go_big_quiet_skip
              | (go_big_quiet_want
                 go_big_quiet_op
                 first
                   | go_big_quiet_on
                   | (apply Exists.intro
                      refine ⟨fun w hw => ?_, ?_⟩
                      first
                        | with_reducible rfl
                        | with_reducible exact unhide Hab w hw
                        | with_reducible exact unhide HR1 w hw
                        | with_reducible exact unhide Hac w hw
                        | with_reducible exact unhide Hca w hw
                        | with_reducible exact unhide Hbb w hw
                        | with_reducible exact unhide HK1 w hw
                        | (obtain ⟨q1, q2, q3⟩ := unhide HC w hw
                           go_simp
                           first | done | rfl | exact ⟨rfl, rfl⟩)
                      go_big_quiet_on)))
            refine wpQuiet_nil ?_
            intro w5 hw5
            go_wp2
            go_ret
            exact ⟨rfl, hBW.trans (hw5.mono (by omega))⟩)
end Go.Proofs.YtoffpbaddehncaaGreatDoor

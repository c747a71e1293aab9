/- plus of texts, and of a text and a number. -/
import Derived.Deep.RegionHeld3
import Derived.Test.YthjlhdldomfikabDoorBJ0
import Derived.Test.YthjlhdldomfikabDoorVG
namespace Go.Proofs.YthjlhdldomfikabDoor
set_option linter.unusedSimpArgs false
set_option linter.unusedVariables false
set_option maxRecDepth 100000
set_option maxHeartbeats 2000000
open Go.RowKit Go.Shelf

theorem plus_txt (A : World) (k n k' n' : Int) (s t sa sb : ByteArray) (hk : k = 3 ∧ k' = 4 ∨ k = 4 ∧ k' = 4 ∨ k = 4 ∧ k' = 3) (HA : RetA A 36 #[.agg (Vc k n s)] (.string sa)) (HB : RetA A 36 #[.agg (Vc k' n' t)] (.string sb)) (h0 : 0 < sa.size + sb.size) (h1 : sa.size + sb.size ≤ 65536) :
    RetA A 14 #[.agg (Vc k n s), .agg (Vc k' n' t)] (Tr 4 0 (sa ++ sb) ⟨#[]⟩ 0) := by
  intro W hA
  obtain ⟨W2, hW2, b1, b2, b3, hb, hz⟩ := three_boxes W k n s k' n' t
  obtain ⟨c0, c1, c2, f0, f1, f2, lt⟩ := b1.all
  obtain ⟨x0, x1, x2, y0, y1, y2, ly⟩ := b2.all
  have HJ := hide (joined_any sa sb h0 h1)
  have HA1 := hide (Below.up hA hb)
  have HA2 := hide ((Below.up hA hb).drew)
  have HX := hide HA
  have HY := hide HB
  have HSS : Hid (∀ w', Below (W.heap.size + 2) W2 w' → (w'.cell? ⟨W.heap.size, 0, none⟩ = some (.int .i64 k) ∧ w'.cell? ⟨W.heap.size, 1, none⟩ = some (.int .i64 n) ∧ w'.cell? ⟨W.heap.size, 2, none⟩ = some (.string s)) ∧ (w'.cell? ⟨W.heap.size + 1, 0, none⟩ = some (.int .i64 k') ∧ w'.cell? ⟨W.heap.size + 1, 1, none⟩ = some (.int .i64 n') ∧ w'.cell? ⟨W.heap.size + 1, 2, none⟩ = some (.string t))) := fun w' h => by
    obtain ⟨e0, e1, e2, _, _, _, _⟩ := (b1.below h (by omega)).all
    obtain ⟨g0, g1, g2, _, _, _, _⟩ := (b2.below h (by omega)).all
    exact ⟨⟨e0, e1, e2⟩, g0, g1, g2⟩
  have B3 := hide b3
  have HBB := hide hb
  have HD : Hid (Below (W.heap.size + 3) W2 W2.drew) := hide (Below.refl _ _).drew
  have HW3 : Hid (W.heap.size + 3 ≤ W2.drew.heap.size) := (show W.heap.size + 3 ≤ W2.heap.size by omega)
  unfold Vc at HX HY ⊢
  clear b1 b2 b3 hb hz hA HA HB h0 h1
  rcases hk with ⟨rfl, rfl⟩ | ⟨rfl, rfl⟩ | ⟨rfl, rfl⟩
  · go_enter Tryd.func14, Tryd.ntmps14
    go_wp2_with fail
    go_region_held3 (fun w' => (w'.cell? ⟨W.heap.size, 0, none⟩ = some (.int .i64 3) ∧ w'.cell? ⟨W.heap.size, 1, none⟩ = some (.int .i64 n) ∧ w'.cell? ⟨W.heap.size, 2, none⟩ = some (.string s)) ∧ (w'.cell? ⟨W.heap.size + 1, 0, none⟩ = some (.int .i64 4) ∧ w'.cell? ⟨W.heap.size + 1, 1, none⟩ = some (.int .i64 n') ∧ w'.cell? ⟨W.heap.size + 1, 2, none⟩ = some (.string t)))
      (with_reducible first
        | assumption
        | exact unhide HSS _ ((((((unhide HB3).mono (Nat.le_succ _)).setCell (Nat.le_refl _) _).setCell (Nat.le_refl _) _).setCell (Nat.le_refl _) _))
        | exact unhide HSS _ ((unhide HB3).mono (Nat.le_succ _))
        | exact unhide HSS _ ((unhide HB2).mono (Nat.le_succ _))
        | exact unhide HSS _ ((unhide HB1).mono (Nat.le_succ _))
        | exact unhide HSS _ ((unhide HD).mono (Nat.le_succ _))
        | exact unhide HSS _ (Below.refl _ _))
      ((first
        | (go_at_call 40
           refine (unhide HJ _).mono ?_
           unfold Tr Vc
           rintro e w3 ⟨rfl, q3⟩
           have hq := (unhide HB2).trans (q3.mono (unhide HZ2))
           have HB3 := hide hq
           have e3 := Bx.below (unhide B3) hq (Nat.lt_succ_self _)
           obtain ⟨d0, d1, d2, g0, g1, g2, ld⟩ := Bv.all e3
           have E3 := hide e3
           obtain ⟨⟨c0, c1, c2⟩, x0, x1, x2⟩ := unhide HSS _ (hq.mono (Nat.le_succ _))
           clear q3 hq e3)
        | (go_at_call 36
           refine (unhide HY w1 (unhide HA3)).mono ?_
           rintro e w2 ⟨rfl, q2⟩
           have HB2 := hide ((unhide HB1).trans (q2.mono (unhide HZ1)))
           have HZ2 := hide (Nat.le_trans (unhide HZ1) q2.size)
           obtain ⟨⟨c0, c1, c2⟩, x0, x1, x2⟩ := unhide HSS _ ((unhide HB2).mono (Nat.le_succ _))
           clear q2)
        | (go_at_call 36
           refine (unhide HX W2.drew (unhide HA2)).mono ?_
           rintro e w1 ⟨rfl, q1⟩
           have HB1 := hide ((unhide HD).trans (q1.mono (unhide HW3)))
           have HA3 := hide (Below.up (unhide HA2) q1)
           have HZ1 := hide (Nat.le_trans (unhide HW3) q1.size)
           obtain ⟨⟨c0, c1, c2⟩, x0, x1, x2⟩ := unhide HSS _ ((unhide HB1).mono (Nat.le_succ _))
           clear q1)))
    all_goals (go_wp2; exact ret_vsf Tryd.results14 rfl rfl rfl (unhide E3) rfl ((unhide HBB).trans ((unhide HB3).mono (Nat.le_add_right _ _))) (by omega) rfl)
  · go_enter Tryd.func14, Tryd.ntmps14
    go_wp2_with fail
    go_region_held3 (fun w' => (w'.cell? ⟨W.heap.size, 0, none⟩ = some (.int .i64 4) ∧ w'.cell? ⟨W.heap.size, 1, none⟩ = some (.int .i64 n) ∧ w'.cell? ⟨W.heap.size, 2, none⟩ = some (.string s)) ∧ (w'.cell? ⟨W.heap.size + 1, 0, none⟩ = some (.int .i64 4) ∧ w'.cell? ⟨W.heap.size + 1, 1, none⟩ = some (.int .i64 n') ∧ w'.cell? ⟨W.heap.size + 1, 2, none⟩ = some (.string t)))
      (with_reducible first
        | assumption
        | exact unhide HSS _ ((((((unhide HB3).mono (Nat.le_succ _)).setCell (Nat.le_refl _) _).setCell (Nat.le_refl _) _).setCell (Nat.le_refl _) _))
        | exact unhide HSS _ ((unhide HB3).mono (Nat.le_succ _))
        | exact unhide HSS _ ((unhide HB2).mono (Nat.le_succ _))
        | exact unhide HSS _ ((unhide HB1).mono (Nat.le_succ _))
        | exact unhide HSS _ ((unhide HD).mono (Nat.le_succ _))
        | exact unhide HSS _ (Below.refl _ _))
      ((first
        | (go_at_call 40
           refine (unhide HJ _).mono ?_
           unfold Tr Vc
           rintro e w3 ⟨rfl, q3⟩
           have hq := (unhide HB2).trans (q3.mono (unhide HZ2))
           have HB3 := hide hq
           have e3 := Bx.below (unhide B3) hq (Nat.lt_succ_self _)
           obtain ⟨d0, d1, d2, g0, g1, g2, ld⟩ := Bv.all e3
           have E3 := hide e3
           obtain ⟨⟨c0, c1, c2⟩, x0, x1, x2⟩ := unhide HSS _ (hq.mono (Nat.le_succ _))
           clear q3 hq e3)
        | (go_at_call 36
           refine (unhide HY w1 (unhide HA3)).mono ?_
           rintro e w2 ⟨rfl, q2⟩
           have HB2 := hide ((unhide HB1).trans (q2.mono (unhide HZ1)))
           have HZ2 := hide (Nat.le_trans (unhide HZ1) q2.size)
           obtain ⟨⟨c0, c1, c2⟩, x0, x1, x2⟩ := unhide HSS _ ((unhide HB2).mono (Nat.le_succ _))
           clear q2)
        | (go_at_call 36
           refine (unhide HX W2.drew (unhide HA2)).mono ?_
           rintro e w1 ⟨rfl, q1⟩
           have HB1 := hide ((unhide HD).trans (q1.mono (unhide HW3)))
           have HA3 := hide (Below.up (unhide HA2) q1)
           have HZ1 := hide (Nat.le_trans (unhide HW3) q1.size)
           obtain ⟨⟨c0, c1, c2⟩, x0, x1, x2⟩ := unhide HSS _ ((unhide HB1).mono (Nat.le_succ _))
           clear q1)))
    all_goals (go_wp2; exact ret_vsf Tryd.results14 rfl rfl rfl (unhide E3) rfl ((unhide HBB).trans ((unhide HB3).mono (Nat.le_add_right _ _))) (by omega) rfl)
  · go_enter Tryd.func14, Tryd.ntmps14
    go_wp2_with fail
    go_region_held3 (fun w' => (w'.cell? ⟨W.heap.size, 0, none⟩ = some (.int .i64 4) ∧ w'.cell? ⟨W.heap.size, 1, none⟩ = some (.int .i64 n) ∧ w'.cell? ⟨W.heap.size, 2, none⟩ = some (.string s)) ∧ (w'.cell? ⟨W.heap.size + 1, 0, none⟩ = some (.int .i64 3) ∧ w'.cell? ⟨W.heap.size + 1, 1, none⟩ = some (.int .i64 n') ∧ w'.cell? ⟨W.heap.size + 1, 2, none⟩ = some (.string t)))
      (with_reducible first
        | assumption
        | exact unhide HSS _ ((((((unhide HB3).mono (Nat.le_succ _)).setCell (Nat.le_refl _) _).setCell (Nat.le_refl _) _).setCell (Nat.le_refl _) _))
        | exact unhide HSS _ ((unhide HB3).mono (Nat.le_succ _))
        | exact unhide HSS _ ((unhide HB2).mono (Nat.le_succ _))
        | exact unhide HSS _ ((unhide HB1).mono (Nat.le_succ _))
        | exact unhide HSS _ ((unhide HD).mono (Nat.le_succ _))
        | exact unhide HSS _ (Below.refl _ _))
      ((first
        | (go_at_call 40
           refine (unhide HJ _).mono ?_
           unfold Tr Vc
           rintro e w3 ⟨rfl, q3⟩
           have hq := (unhide HB2).trans (q3.mono (unhide HZ2))
           have HB3 := hide hq
           have e3 := Bx.below (unhide B3) hq (Nat.lt_succ_self _)
           obtain ⟨d0, d1, d2, g0, g1, g2, ld⟩ := Bv.all e3
           have E3 := hide e3
           obtain ⟨⟨c0, c1, c2⟩, x0, x1, x2⟩ := unhide HSS _ (hq.mono (Nat.le_succ _))
           clear q3 hq e3)
        | (go_at_call 36
           refine (unhide HY w1 (unhide HA3)).mono ?_
           rintro e w2 ⟨rfl, q2⟩
           have HB2 := hide ((unhide HB1).trans (q2.mono (unhide HZ1)))
           have HZ2 := hide (Nat.le_trans (unhide HZ1) q2.size)
           obtain ⟨⟨c0, c1, c2⟩, x0, x1, x2⟩ := unhide HSS _ ((unhide HB2).mono (Nat.le_succ _))
           clear q2)
        | (go_at_call 36
           refine (unhide HX W2.drew (unhide HA2)).mono ?_
           rintro e w1 ⟨rfl, q1⟩
           have HB1 := hide ((unhide HD).trans (q1.mono (unhide HW3)))
           have HA3 := hide (Below.up (unhide HA2) q1)
           have HZ1 := hide (Nat.le_trans (unhide HW3) q1.size)
           obtain ⟨⟨c0, c1, c2⟩, x0, x1, x2⟩ := unhide HSS _ ((unhide HB1).mono (Nat.le_succ _))
           clear q1)))
    all_goals (go_wp2; exact ret_vsf Tryd.results14 rfl rfl rfl (unhide E3) rfl ((unhide HBB).trans ((unhide HB3).mono (Nat.le_add_right _ _))) (by omega) rfl)
end Go.Proofs.YthjlhdldomfikabDoor

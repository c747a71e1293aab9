/- Merged: BJ0, BJ1, BJ2. -/
import Derived.Deep.CutRange
import Derived.Deep.RegionHeld3
import Derived.Deep.RegionWith
import Derived.Test.YthjlhdldomfikaaDoorBSh
import Derived.Test.YthjlhdldomfikaaDoorBW
import Derived.Test.YthjlhdldomfikaaDoorV7
import Derived.Test.YthjlhdldomfikaaDoorVE
import Derived.Test.YthjlhdldomfikaaDoorVG
/- joined: two texts put together in a builder of their own. -/
namespace Go.Proofs.YthjlhdldomfikaaDoor
set_option linter.unusedSimpArgs false
set_option linter.unusedVariables false
set_option maxRecDepth 100000
set_option maxHeartbeats 1000000
open Go.RowKit Go.Shelf

theorem two_b (W : World) : ∃ W2, (W.alloc (.cells #[.int .i64 0, .int .i64 0, .string ⟨#[]⟩] 23)).alloc (.cells #[.pointer none, .slice none 0 0] 85) = W2 ∧ Bv W2 W.heap.size 0 0 ⟨#[]⟩ ∧ W2.heap[W.heap.size + 1]? = some (.cells #[.pointer none, .slice none 0 0] 85 (0, 0)) ∧ Below W.heap.size W W2 ∧ W2.heap.size = W.heap.size + 2 := by
  refine ⟨_, rfl, (Bx.new W _ _).alloc _, ?_, below_two _ _ _, by simp⟩
  have := Bx.new (W.alloc (.cells #[.int .i64 0, .int .i64 0, .string ⟨#[]⟩] 23)) #[.pointer none, .slice none 0 0] 85
  rw [World.size_alloc] at this
  exact this
theorem cells_two (a b : ByteArray) : ([] ++ Lib.strCells a) ++ Lib.strCells b = Lib.byteCells (a.data.toList ++ b.data.toList) := by
  simp [Lib.strCells, Lib.byteCells]
theorem join_eq (a b : ByteArray) : (⟨(a.data.toList ++ b.data.toList).toArray⟩ : ByteArray) = a ++ b := by
  apply ByteArray.ext
  rw [ByteArray.data_append]
  simp
theorem joined_any (a b : ByteArray) (h1 : a.size + b.size ≤ 65536) : Ret 61 #[.string a, .string b] (Tr 4 0 (a ++ b) ⟨#[]⟩ 0) := by
  intro W
  obtain ⟨W2, hW2, b1, hbk, hb, hz⟩ := two_b W
  have HG : Hid (Calls Tryd.prog 76 #[.pointer (some ⟨W.heap.size + 1, 0, none⟩), .int .i64 ((a.size : Int) + (b.size : Int))] W2 fun e w' => e = .returned (.tuple #[]) ∧ Lib.BuilderAt 85 5 (W.heap.size + 1) (W.heap.size + 1) (.pointer (some ⟨W.heap.size + 1, 0, none⟩)) [] w' ∧ Below (W.heap.size + 1) W2 w') := by
    have := Tryd.Builder_Grow_fresh (W.heap.size + 1) (W.heap.size + 1) (a.size + b.size) W2 (Nat.le_refl _) hbk (by omega) (by omega)
    rw [Int.natCast_add] at this
    exact this
  have HB1 := hide b1
  have HB := hide hb
  have HZ := hide hz
  have hl1 : Hid (([] : List Value).length + a.size ≤ 140737488355328) := (by simp; omega : ([] : List Value).length + a.size ≤ 140737488355328)
  have hl2 : Hid (([] ++ Lib.strCells a).length + b.size ≤ 140737488355328) := (by rw [List.nil_append, Lib.strCells_length]; omega : ([] ++ Lib.strCells a).length + b.size ≤ 140737488355328)
  have HS : Hid (∀ w, Lib.BuilderAt 85 5 (W.heap.size + 1) (W.heap.size + 1) (.pointer (some ⟨W.heap.size + 1, 0, none⟩)) ([] ++ Lib.strCells a ++ Lib.strCells b) w → Calls Tryd.prog 78 #[.pointer (some ⟨W.heap.size + 1, 0, none⟩)] w fun e w' => e = .returned (.string (a ++ b)) ∧ Below (W.heap.size + 1) w w') := fun w h => by
    rw [cells_two] at h
    have hlt : W.heap.size + 1 ≤ w.heap.size := Nat.le_of_lt (BAt.lt ⟨h.1, h.2.choose_spec⟩)
    have := Tryd.Builder_String (W.heap.size + 1) (W.heap.size + 1) _ w (.inr h) hlt
    rw [join_eq] at this
    exact this
  have h2 : ¬ ((65536 : Int) < (a.size : Int) + (b.size : Int)) := by omega
  have h3 : (a.size : Int) ≤ 65536 := by omega
  have h4 : (b.size : Int) ≤ 65536 := by omega
  clear b1 hbk hb hz h1
  go_enter Tryd.func61, Tryd.ntmps61
  go_wp2_with (first
    | (go_at_call 76
       refine (unhide HG).mono ?_
       rintro e w3 ⟨rfl, q3, hb3⟩
       have H3 := hide q3
       have HB3 := hide hb3
       clear q3 hb3)
    | (go_at_call 77
       refine (ws_at _ _ _ b w4 (unhide H4) (unhide hl2)).mono ?_
       rintro e w5 ⟨rfl, q5, hb5⟩
       have H5 := hide q5
       have HB5 := hide ((unhide HB4).trans hb5)
       clear q5 hb5)
    | (go_at_call 77
       refine (ws_at _ _ _ a w3 (unhide H3) (unhide hl1)).mono ?_
       rintro e w4 ⟨rfl, q4, hb4⟩
       have H4 := hide q4
       have HB4 := hide ((unhide HB3).trans hb4)
       clear q4 hb4)
    | (go_at_call 78
       refine (unhide HS w5 (unhide H5)).mono ?_
       rintro e w6 ⟨rfl, hb6⟩
       have hq := (unhide HB5).trans hb6
       have E6 := hide (Bx.below (unhide HB1) hq (Nat.lt_succ_self _))
       have HB6 := hide ((unhide HB).trans (hq.mono (Nat.le_succ _)))
       obtain ⟨d0, d1, d2, g0, g1, g2, ld⟩ := Bv.all (unhide E6)
       clear hb6 hq))
  exact ret_vsf Tryd.results61 rfl rfl rfl (unhide E6) rfl (unhide HB6) (Nat.le_refl _) rfl
theorem joined_big (a b : ByteArray) (h1 : 65536 < a.size + b.size) (ha : a.size ≤ 281474976710656) (hb : b.size ≤ 281474976710656) : Ret 61 #[.string a, .string b] (Tr 0 0 ByteArray.empty ⟨#[]⟩ 3) := by
  intro W
  obtain ⟨W2, hW2, b1, hb2, hz⟩ := new_box W 0 0 ⟨#[]⟩
  have HB1 := hide b1
  have HB := hide hb2
  have h2 : (65536 : Int) < (a.size : Int) + (b.size : Int) := by omega
  have h3 : (a.size : Int) ≤ 281474976710656 := by omega
  have h4 : (b.size : Int) ≤ 281474976710656 := by omega
  clear b1 hb2 hz h1 ha hb
  go_enter Tryd.func61, Tryd.ntmps61
  go_wp2_with (go_at_call 62; refine (fail_any 3 _).mono ?_; unfold Tr; rintro e w1 ⟨rfl, q⟩; unfold Vc; have E3 := hide ((unhide HB1).below q (Bx.lt (unhide HB1))); obtain ⟨d0, d1, d2, g0, g1, g2, lt'⟩ := (unhide E3).all)
  exact ret_vsf Tryd.results61 rfl rfl rfl (unhide E3) rfl (Below.up (unhide HB) q) (Nat.le_refl _) rfl
end Go.Proofs.YthjlhdldomfikaaDoor

/- plus: a text and what is no thing put together; what throws. -/
namespace Go.Proofs.YthjlhdldomfikaaDoor
set_option linter.unusedSimpArgs false
set_option linter.unusedVariables false
set_option maxRecDepth 100000
set_option maxHeartbeats 4000000
open Go.RowKit Go.Shelf

theorem plus_jn (A : World) (k n k' n' : Int) (s t sa sb : ByteArray) (r : R5) (hk : (k = 4 ∧ (k' = 0 ∨ k' = 1 ∨ k' = 2 ∨ k' = 3 ∨ k' = 4)) ∨ (k' = 4 ∧ (k = 0 ∨ k = 1 ∨ k = 2 ∨ k = 3))) (HA : RetA A 53 #[.agg (Vc k n s)] (.string sa)) (HB : RetA A 53 #[.agg (Vc k' n' t)] (.string sb)) (HJ0 : Ret 61 #[.string sa, .string sb] r.tr) :
    RetA A 32 #[.agg (Vc k n s), .agg (Vc k' n' t)] r.tr := by
  intro W hA
  obtain ⟨W2, hW2, b1, b2, b3, hb, hz⟩ := three_boxes W k n s k' n' t
  obtain ⟨c0, c1, c2, f0, f1, f2, lt⟩ := b1.all
  obtain ⟨x0, x1, x2, y0, y1, y2, ly⟩ := b2.all
  obtain ⟨rk, rn, rt, rs, rf⟩ := r
  have HJ := hide HJ0
  have HA1 := hide (Below.up hA hb)
  have HA2 := hide ((Below.up hA hb).drew)
  have HX := hide HA
  have HY := hide HB
  have HSS : Hid (∀ w', Below (W.heap.size + 2) W2 w' → (w'.cell? ⟨W.heap.size, 0, none⟩ = some (.int .i64 k) ∧ w'.cell? ⟨W.heap.size, 1, none⟩ = some (.int .i64 n) ∧ w'.cell? ⟨W.heap.size, 2, none⟩ = some (.string s)) ∧ (w'.cell? ⟨W.heap.size + 1, 0, none⟩ = some (.int .i64 k') ∧ w'.cell? ⟨W.heap.size + 1, 1, none⟩ = some (.int .i64 n') ∧ w'.cell? ⟨W.heap.size + 1, 2, none⟩ = some (.string t))) := fun w' h => by
    obtain ⟨e0, e1, e2, _, _, _, _⟩ := (b1.below h (by omega)).all
    obtain ⟨g0, g1, g2, _, _, _, _⟩ := (b2.below h (by omega)).all
    exact ⟨⟨e0, e1, e2⟩, g0, g1, g2⟩
  have B3 := hide b3
  have HBB := hide hb
  have HD : Hid (Below (W.heap.size + 3) W2 W2.drew) := hide (Below.refl _ _).drew
  have HW3 : Hid (W.heap.size + 3 ≤ W2.drew.heap.size) := (show W.heap.size + 3 ≤ W2.heap.size by omega)
  unfold Vc at HX HY ⊢
  unfold R5.tr at HJ ⊢
  clear b1 b2 b3 hb hz hA HA HB HJ0
  rcases hk with ⟨rfl, rfl | rfl | rfl | rfl | rfl⟩ | ⟨rfl, rfl | rfl | rfl | rfl⟩
  · go_enter Tryd.func32, Tryd.ntmps32
    go_wp2_with fail
    go_region_held3 (fun w' => (w'.cell? ⟨W.heap.size, 0, none⟩ = some (.int .i64 4) ∧ w'.cell? ⟨W.heap.size, 1, none⟩ = some (.int .i64 n) ∧ w'.cell? ⟨W.heap.size, 2, none⟩ = some (.string s)) ∧ (w'.cell? ⟨W.heap.size + 1, 0, none⟩ = some (.int .i64 0) ∧ w'.cell? ⟨W.heap.size + 1, 1, none⟩ = some (.int .i64 n') ∧ w'.cell? ⟨W.heap.size + 1, 2, none⟩ = some (.string t)))
      (with_reducible first
        | assumption
        | exact unhide HSS _ ((((((unhide HB3).mono (Nat.le_succ _)).setCell (Nat.le_refl _) _).setCell (Nat.le_refl _) _).setCell (Nat.le_refl _) _))
        | exact unhide HSS _ ((unhide HB3).mono (Nat.le_succ _))
        | exact unhide HSS _ ((unhide HB2).mono (Nat.le_succ _))
        | exact unhide HSS _ ((unhide HB1).mono (Nat.le_succ _))
        | exact unhide HSS _ ((unhide HD).mono (Nat.le_succ _))
        | exact unhide HSS _ (Below.refl _ _))
      ((first
        | (go_at_call 61
           refine (unhide HJ _).mono ?_
           unfold Tr Vc
           rintro e w3 ⟨rfl, q3⟩
           have hq := (unhide HB2).trans (q3.mono (unhide HZ2))
           have HB3 := hide hq
           have e3 := Bx.below (unhide B3) hq (Nat.lt_succ_self _)
           obtain ⟨d0, d1, d2, g0, g1, g2, ld⟩ := Bv.all e3
           have E3 := hide e3
           obtain ⟨⟨c0, c1, c2⟩, x0, x1, x2⟩ := unhide HSS _ (hq.mono (Nat.le_succ _))
           clear q3 hq e3)
        | (go_at_call 53
           refine (unhide HY w1 (unhide HA3)).mono ?_
           rintro e w2 ⟨rfl, q2⟩
           have HB2 := hide ((unhide HB1).trans (q2.mono (unhide HZ1)))
           have HZ2 := hide (Nat.le_trans (unhide HZ1) q2.size)
           obtain ⟨⟨c0, c1, c2⟩, x0, x1, x2⟩ := unhide HSS _ ((unhide HB2).mono (Nat.le_succ _))
           clear q2)
        | (go_at_call 53
           refine (unhide HX W2.drew (unhide HA2)).mono ?_
           rintro e w1 ⟨rfl, q1⟩
           have HB1 := hide ((unhide HD).trans (q1.mono (unhide HW3)))
           have HA3 := hide (Below.up (unhide HA2) q1)
           have HZ1 := hide (Nat.le_trans (unhide HW3) q1.size)
           obtain ⟨⟨c0, c1, c2⟩, x0, x1, x2⟩ := unhide HSS _ ((unhide HB1).mono (Nat.le_succ _))
           clear q1)))
    all_goals (go_wp2; exact ret_vsf Tryd.results32 rfl rfl rfl (unhide E3) rfl ((unhide HBB).trans ((unhide HB3).mono (Nat.le_add_right _ _))) (by omega) rfl)
  · go_enter Tryd.func32, Tryd.ntmps32
    go_wp2_with fail
    go_region_held3 (fun w' => (w'.cell? ⟨W.heap.size, 0, none⟩ = some (.int .i64 4) ∧ w'.cell? ⟨W.heap.size, 1, none⟩ = some (.int .i64 n) ∧ w'.cell? ⟨W.heap.size, 2, none⟩ = some (.string s)) ∧ (w'.cell? ⟨W.heap.size + 1, 0, none⟩ = some (.int .i64 1) ∧ w'.cell? ⟨W.heap.size + 1, 1, none⟩ = some (.int .i64 n') ∧ w'.cell? ⟨W.heap.size + 1, 2, none⟩ = some (.string t)))
      (with_reducible first
        | assumption
        | exact unhide HSS _ ((((((unhide HB3).mono (Nat.le_succ _)).setCell (Nat.le_refl _) _).setCell (Nat.le_refl _) _).setCell (Nat.le_refl _) _))
        | exact unhide HSS _ ((unhide HB3).mono (Nat.le_succ _))
        | exact unhide HSS _ ((unhide HB2).mono (Nat.le_succ _))
        | exact unhide HSS _ ((unhide HB1).mono (Nat.le_succ _))
        | exact unhide HSS _ ((unhide HD).mono (Nat.le_succ _))
        | exact unhide HSS _ (Below.refl _ _))
      ((first
        | (go_at_call 61
           refine (unhide HJ _).mono ?_
           unfold Tr Vc
           rintro e w3 ⟨rfl, q3⟩
           have hq := (unhide HB2).trans (q3.mono (unhide HZ2))
           have HB3 := hide hq
           have e3 := Bx.below (unhide B3) hq (Nat.lt_succ_self _)
           obtain ⟨d0, d1, d2, g0, g1, g2, ld⟩ := Bv.all e3
           have E3 := hide e3
           obtain ⟨⟨c0, c1, c2⟩, x0, x1, x2⟩ := unhide HSS _ (hq.mono (Nat.le_succ _))
           clear q3 hq e3)
        | (go_at_call 53
           refine (unhide HY w1 (unhide HA3)).mono ?_
           rintro e w2 ⟨rfl, q2⟩
           have HB2 := hide ((unhide HB1).trans (q2.mono (unhide HZ1)))
           have HZ2 := hide (Nat.le_trans (unhide HZ1) q2.size)
           obtain ⟨⟨c0, c1, c2⟩, x0, x1, x2⟩ := unhide HSS _ ((unhide HB2).mono (Nat.le_succ _))
           clear q2)
        | (go_at_call 53
           refine (unhide HX W2.drew (unhide HA2)).mono ?_
           rintro e w1 ⟨rfl, q1⟩
           have HB1 := hide ((unhide HD).trans (q1.mono (unhide HW3)))
           have HA3 := hide (Below.up (unhide HA2) q1)
           have HZ1 := hide (Nat.le_trans (unhide HW3) q1.size)
           obtain ⟨⟨c0, c1, c2⟩, x0, x1, x2⟩ := unhide HSS _ ((unhide HB1).mono (Nat.le_succ _))
           clear q1)))
    all_goals (go_wp2; exact ret_vsf Tryd.results32 rfl rfl rfl (unhide E3) rfl ((unhide HBB).trans ((unhide HB3).mono (Nat.le_add_right _ _))) (by omega) rfl)
  · go_enter Tryd.func32, Tryd.ntmps32
    go_wp2_with fail
    go_region_held3 (fun w' => (w'.cell? ⟨W.heap.size, 0, none⟩ = some (.int .i64 4) ∧ w'.cell? ⟨W.heap.size, 1, none⟩ = some (.int .i64 n) ∧ w'.cell? ⟨W.heap.size, 2, none⟩ = some (.string s)) ∧ (w'.cell? ⟨W.heap.size + 1, 0, none⟩ = some (.int .i64 2) ∧ w'.cell? ⟨W.heap.size + 1, 1, none⟩ = some (.int .i64 n') ∧ w'.cell? ⟨W.heap.size + 1, 2, none⟩ = some (.string t)))
      (with_reducible first
        | assumption
        | exact unhide HSS _ ((((((unhide HB3).mono (Nat.le_succ _)).setCell (Nat.le_refl _) _).setCell (Nat.le_refl _) _).setCell (Nat.le_refl _) _))
        | exact unhide HSS _ ((unhide HB3).mono (Nat.le_succ _))
        | exact unhide HSS _ ((unhide HB2).mono (Nat.le_succ _))
        | exact unhide HSS _ ((unhide HB1).mono (Nat.le_succ _))
        | exact unhide HSS _ ((unhide HD).mono (Nat.le_succ _))
        | exact unhide HSS _ (Below.refl _ _))
      ((first
        | (go_at_call 61
           refine (unhide HJ _).mono ?_
           unfold Tr Vc
           rintro e w3 ⟨rfl, q3⟩
           have hq := (unhide HB2).trans (q3.mono (unhide HZ2))
           have HB3 := hide hq
           have e3 := Bx.below (unhide B3) hq (Nat.lt_succ_self _)
           obtain ⟨d0, d1, d2, g0, g1, g2, ld⟩ := Bv.all e3
           have E3 := hide e3
           obtain ⟨⟨c0, c1, c2⟩, x0, x1, x2⟩ := unhide HSS _ (hq.mono (Nat.le_succ _))
           clear q3 hq e3)
        | (go_at_call 53
           refine (unhide HY w1 (unhide HA3)).mono ?_
           rintro e w2 ⟨rfl, q2⟩
           have HB2 := hide ((unhide HB1).trans (q2.mono (unhide HZ1)))
           have HZ2 := hide (Nat.le_trans (unhide HZ1) q2.size)
           obtain ⟨⟨c0, c1, c2⟩, x0, x1, x2⟩ := unhide HSS _ ((unhide HB2).mono (Nat.le_succ _))
           clear q2)
        | (go_at_call 53
           refine (unhide HX W2.drew (unhide HA2)).mono ?_
           rintro e w1 ⟨rfl, q1⟩
           have HB1 := hide ((unhide HD).trans (q1.mono (unhide HW3)))
           have HA3 := hide (Below.up (unhide HA2) q1)
           have HZ1 := hide (Nat.le_trans (unhide HW3) q1.size)
           obtain ⟨⟨c0, c1, c2⟩, x0, x1, x2⟩ := unhide HSS _ ((unhide HB1).mono (Nat.le_succ _))
           clear q1)))
    all_goals (go_wp2; exact ret_vsf Tryd.results32 rfl rfl rfl (unhide E3) rfl ((unhide HBB).trans ((unhide HB3).mono (Nat.le_add_right _ _))) (by omega) rfl)
  · go_enter Tryd.func32, Tryd.ntmps32
    go_wp2_with fail
    go_region_held3 (fun w' => (w'.cell? ⟨W.heap.size, 0, none⟩ = some (.int .i64 4) ∧ w'.cell? ⟨W.heap.size, 1, none⟩ = some (.int .i64 n) ∧ w'.cell? ⟨W.heap.size, 2, none⟩ = some (.string s)) ∧ (w'.cell? ⟨W.heap.size + 1, 0, none⟩ = some (.int .i64 3) ∧ w'.cell? ⟨W.heap.size + 1, 1, none⟩ = some (.int .i64 n') ∧ w'.cell? ⟨W.heap.size + 1, 2, none⟩ = some (.string t)))
      (with_reducible first
        | assumption
        | exact unhide HSS _ ((((((unhide HB3).mono (Nat.le_succ _)).setCell (Nat.le_refl _) _).setCell (Nat.le_refl _) _).setCell (Nat.le_refl _) _))
        | exact unhide HSS _ ((unhide HB3).mono (Nat.le_succ _))
        | exact unhide HSS _ ((unhide HB2).mono (Nat.le_succ _))
        | exact unhide HSS _ ((unhide HB1).mono (Nat.le_succ _))
        | exact unhide HSS _ ((unhide HD).mono (Nat.le_succ _))
        | exact unhide HSS _ (Below.refl _ _))
      ((first
        | (go_at_call 61
           refine (unhide HJ _).mono ?_
           unfold Tr Vc
           rintro e w3 ⟨rfl, q3⟩
           have hq := (unhide HB2).trans (q3.mono (unhide HZ2))
           have HB3 := hide hq
           have e3 := Bx.below (unhide B3) hq (Nat.lt_succ_self _)
           obtain ⟨d0, d1, d2, g0, g1, g2, ld⟩ := Bv.all e3
           have E3 := hide e3
           obtain ⟨⟨c0, c1, c2⟩, x0, x1, x2⟩ := unhide HSS _ (hq.mono (Nat.le_succ _))
           clear q3 hq e3)
        | (go_at_call 53
           refine (unhide HY w1 (unhide HA3)).mono ?_
           rintro e w2 ⟨rfl, q2⟩
           have HB2 := hide ((unhide HB1).trans (q2.mono (unhide HZ1)))
           have HZ2 := hide (Nat.le_trans (unhide HZ1) q2.size)
           obtain ⟨⟨c0, c1, c2⟩, x0, x1, x2⟩ := unhide HSS _ ((unhide HB2).mono (Nat.le_succ _))
           clear q2)
        | (go_at_call 53
           refine (unhide HX W2.drew (unhide HA2)).mono ?_
           rintro e w1 ⟨rfl, q1⟩
           have HB1 := hide ((unhide HD).trans (q1.mono (unhide HW3)))
           have HA3 := hide (Below.up (unhide HA2) q1)
           have HZ1 := hide (Nat.le_trans (unhide HW3) q1.size)
           obtain ⟨⟨c0, c1, c2⟩, x0, x1, x2⟩ := unhide HSS _ ((unhide HB1).mono (Nat.le_succ _))
           clear q1)))
    all_goals (go_wp2; exact ret_vsf Tryd.results32 rfl rfl rfl (unhide E3) rfl ((unhide HBB).trans ((unhide HB3).mono (Nat.le_add_right _ _))) (by omega) rfl)
  · go_enter Tryd.func32, Tryd.ntmps32
    go_wp2_with fail
    go_region_held3 (fun w' => (w'.cell? ⟨W.heap.size, 0, none⟩ = some (.int .i64 4) ∧ w'.cell? ⟨W.heap.size, 1, none⟩ = some (.int .i64 n) ∧ w'.cell? ⟨W.heap.size, 2, none⟩ = some (.string s)) ∧ (w'.cell? ⟨W.heap.size + 1, 0, none⟩ = some (.int .i64 4) ∧ w'.cell? ⟨W.heap.size + 1, 1, none⟩ = some (.int .i64 n') ∧ w'.cell? ⟨W.heap.size + 1, 2, none⟩ = some (.string t)))
      (with_reducible first
        | assumption
        | exact unhide HSS _ ((((((unhide HB3).mono (Nat.le_succ _)).setCell (Nat.le_refl _) _).setCell (Nat.le_refl _) _).setCell (Nat.le_refl _) _))
        | exact unhide HSS _ ((unhide HB3).mono (Nat.le_succ _))
        | exact unhide HSS _ ((unhide HB2).mono (Nat.le_succ _))
        | exact unhide HSS _ ((unhide HB1).mono (Nat.le_succ _))
        | exact unhide HSS _ ((unhide HD).mono (Nat.le_succ _))
        | exact unhide HSS _ (Below.refl _ _))
      ((first
        | (go_at_call 61
           refine (unhide HJ _).mono ?_
           unfold Tr Vc
           rintro e w3 ⟨rfl, q3⟩
           have hq := (unhide HB2).trans (q3.mono (unhide HZ2))
           have HB3 := hide hq
           have e3 := Bx.below (unhide B3) hq (Nat.lt_succ_self _)
           obtain ⟨d0, d1, d2, g0, g1, g2, ld⟩ := Bv.all e3
           have E3 := hide e3
           obtain ⟨⟨c0, c1, c2⟩, x0, x1, x2⟩ := unhide HSS _ (hq.mono (Nat.le_succ _))
           clear q3 hq e3)
        | (go_at_call 53
           refine (unhide HY w1 (unhide HA3)).mono ?_
           rintro e w2 ⟨rfl, q2⟩
           have HB2 := hide ((unhide HB1).trans (q2.mono (unhide HZ1)))
           have HZ2 := hide (Nat.le_trans (unhide HZ1) q2.size)
           obtain ⟨⟨c0, c1, c2⟩, x0, x1, x2⟩ := unhide HSS _ ((unhide HB2).mono (Nat.le_succ _))
           clear q2)
        | (go_at_call 53
           refine (unhide HX W2.drew (unhide HA2)).mono ?_
           rintro e w1 ⟨rfl, q1⟩
           have HB1 := hide ((unhide HD).trans (q1.mono (unhide HW3)))
           have HA3 := hide (Below.up (unhide HA2) q1)
           have HZ1 := hide (Nat.le_trans (unhide HW3) q1.size)
           obtain ⟨⟨c0, c1, c2⟩, x0, x1, x2⟩ := unhide HSS _ ((unhide HB1).mono (Nat.le_succ _))
           clear q1)))
    all_goals (go_wp2; exact ret_vsf Tryd.results32 rfl rfl rfl (unhide E3) rfl ((unhide HBB).trans ((unhide HB3).mono (Nat.le_add_right _ _))) (by omega) rfl)
  · go_enter Tryd.func32, Tryd.ntmps32
    go_wp2_with fail
    go_region_held3 (fun w' => (w'.cell? ⟨W.heap.size, 0, none⟩ = some (.int .i64 0) ∧ w'.cell? ⟨W.heap.size, 1, none⟩ = some (.int .i64 n) ∧ w'.cell? ⟨W.heap.size, 2, none⟩ = some (.string s)) ∧ (w'.cell? ⟨W.heap.size + 1, 0, none⟩ = some (.int .i64 4) ∧ w'.cell? ⟨W.heap.size + 1, 1, none⟩ = some (.int .i64 n') ∧ w'.cell? ⟨W.heap.size + 1, 2, none⟩ = some (.string t)))
      (with_reducible first
        | assumption
        | exact unhide HSS _ ((((((unhide HB3).mono (Nat.le_succ _)).setCell (Nat.le_refl _) _).setCell (Nat.le_refl _) _).setCell (Nat.le_refl _) _))
        | exact unhide HSS _ ((unhide HB3).mono (Nat.le_succ _))
        | exact unhide HSS _ ((unhide HB2).mono (Nat.le_succ _))
        | exact unhide HSS _ ((unhide HB1).mono (Nat.le_succ _))
        | exact unhide HSS _ ((unhide HD).mono (Nat.le_succ _))
        | exact unhide HSS _ (Below.refl _ _))
      ((first
        | (go_at_call 61
           refine (unhide HJ _).mono ?_
           unfold Tr Vc
           rintro e w3 ⟨rfl, q3⟩
           have hq := (unhide HB2).trans (q3.mono (unhide HZ2))
           have HB3 := hide hq
           have e3 := Bx.below (unhide B3) hq (Nat.lt_succ_self _)
           obtain ⟨d0, d1, d2, g0, g1, g2, ld⟩ := Bv.all e3
           have E3 := hide e3
           obtain ⟨⟨c0, c1, c2⟩, x0, x1, x2⟩ := unhide HSS _ (hq.mono (Nat.le_succ _))
           clear q3 hq e3)
        | (go_at_call 53
           refine (unhide HY w1 (unhide HA3)).mono ?_
           rintro e w2 ⟨rfl, q2⟩
           have HB2 := hide ((unhide HB1).trans (q2.mono (unhide HZ1)))
           have HZ2 := hide (Nat.le_trans (unhide HZ1) q2.size)
           obtain ⟨⟨c0, c1, c2⟩, x0, x1, x2⟩ := unhide HSS _ ((unhide HB2).mono (Nat.le_succ _))
           clear q2)
        | (go_at_call 53
           refine (unhide HX W2.drew (unhide HA2)).mono ?_
           rintro e w1 ⟨rfl, q1⟩
           have HB1 := hide ((unhide HD).trans (q1.mono (unhide HW3)))
           have HA3 := hide (Below.up (unhide HA2) q1)
           have HZ1 := hide (Nat.le_trans (unhide HW3) q1.size)
           obtain ⟨⟨c0, c1, c2⟩, x0, x1, x2⟩ := unhide HSS _ ((unhide HB1).mono (Nat.le_succ _))
           clear q1)))
    all_goals (go_wp2; exact ret_vsf Tryd.results32 rfl rfl rfl (unhide E3) rfl ((unhide HBB).trans ((unhide HB3).mono (Nat.le_add_right _ _))) (by omega) rfl)
  · go_enter Tryd.func32, Tryd.ntmps32
    go_wp2_with fail
    go_region_held3 (fun w' => (w'.cell? ⟨W.heap.size, 0, none⟩ = some (.int .i64 1) ∧ w'.cell? ⟨W.heap.size, 1, none⟩ = some (.int .i64 n) ∧ w'.cell? ⟨W.heap.size, 2, none⟩ = some (.string s)) ∧ (w'.cell? ⟨W.heap.size + 1, 0, none⟩ = some (.int .i64 4) ∧ w'.cell? ⟨W.heap.size + 1, 1, none⟩ = some (.int .i64 n') ∧ w'.cell? ⟨W.heap.size + 1, 2, none⟩ = some (.string t)))
      (with_reducible first
        | assumption
        | exact unhide HSS _ ((((((unhide HB3).mono (Nat.le_succ _)).setCell (Nat.le_refl _) _).setCell (Nat.le_refl _) _).setCell (Nat.le_refl _) _))
        | exact unhide HSS _ ((unhide HB3).mono (Nat.le_succ _))
        | exact unhide HSS _ ((unhide HB2).mono (Nat.le_succ _))
        | exact unhide HSS _ ((unhide HB1).mono (Nat.le_succ _))
        | exact unhide HSS _ ((unhide HD).mono (Nat.le_succ _))
        | exact unhide HSS _ (Below.refl _ _))
      ((first
        | (go_at_call 61
           refine (unhide HJ _).mono ?_
           unfold Tr Vc
           rintro e w3 ⟨rfl, q3⟩
           have hq := (unhide HB2).trans (q3.mono (unhide HZ2))
           have HB3 := hide hq
           have e3 := Bx.below (unhide B3) hq (Nat.lt_succ_self _)
           obtain ⟨d0, d1, d2, g0, g1, g2, ld⟩ := Bv.all e3
           have E3 := hide e3
           obtain ⟨⟨c0, c1, c2⟩, x0, x1, x2⟩ := unhide HSS _ (hq.mono (Nat.le_succ _))
           clear q3 hq e3)
        | (go_at_call 53
           refine (unhide HY w1 (unhide HA3)).mono ?_
           rintro e w2 ⟨rfl, q2⟩
           have HB2 := hide ((unhide HB1).trans (q2.mono (unhide HZ1)))
           have HZ2 := hide (Nat.le_trans (unhide HZ1) q2.size)
           obtain ⟨⟨c0, c1, c2⟩, x0, x1, x2⟩ := unhide HSS _ ((unhide HB2).mono (Nat.le_succ _))
           clear q2)
        | (go_at_call 53
           refine (unhide HX W2.drew (unhide HA2)).mono ?_
           rintro e w1 ⟨rfl, q1⟩
           have HB1 := hide ((unhide HD).trans (q1.mono (unhide HW3)))
           have HA3 := hide (Below.up (unhide HA2) q1)
           have HZ1 := hide (Nat.le_trans (unhide HW3) q1.size)
           obtain ⟨⟨c0, c1, c2⟩, x0, x1, x2⟩ := unhide HSS _ ((unhide HB1).mono (Nat.le_succ _))
           clear q1)))
    all_goals (go_wp2; exact ret_vsf Tryd.results32 rfl rfl rfl (unhide E3) rfl ((unhide HBB).trans ((unhide HB3).mono (Nat.le_add_right _ _))) (by omega) rfl)
  · go_enter Tryd.func32, Tryd.ntmps32
    go_wp2_with fail
    go_region_held3 (fun w' => (w'.cell? ⟨W.heap.size, 0, none⟩ = some (.int .i64 2) ∧ w'.cell? ⟨W.heap.size, 1, none⟩ = some (.int .i64 n) ∧ w'.cell? ⟨W.heap.size, 2, none⟩ = some (.string s)) ∧ (w'.cell? ⟨W.heap.size + 1, 0, none⟩ = some (.int .i64 4) ∧ w'.cell? ⟨W.heap.size + 1, 1, none⟩ = some (.int .i64 n') ∧ w'.cell? ⟨W.heap.size + 1, 2, none⟩ = some (.string t)))
      (with_reducible first
        | assumption
        | exact unhide HSS _ ((((((unhide HB3).mono (Nat.le_succ _)).setCell (Nat.le_refl _) _).setCell (Nat.le_refl _) _).setCell (Nat.le_refl _) _))
        | exact unhide HSS _ ((unhide HB3).mono (Nat.le_succ _))
        | exact unhide HSS _ ((unhide HB2).mono (Nat.le_succ _))
        | exact unhide HSS _ ((unhide HB1).mono (Nat.le_succ _))
        | exact unhide HSS _ ((unhide HD).mono (Nat.le_succ _))
        | exact unhide HSS _ (Below.refl _ _))
      ((first
        | (go_at_call 61
           refine (unhide HJ _).mono ?_
           unfold Tr Vc
           rintro e w3 ⟨rfl, q3⟩
           have hq := (unhide HB2).trans (q3.mono (unhide HZ2))
           have HB3 := hide hq
           have e3 := Bx.below (unhide B3) hq (Nat.lt_succ_self _)
           obtain ⟨d0, d1, d2, g0, g1, g2, ld⟩ := Bv.all e3
           have E3 := hide e3
           obtain ⟨⟨c0, c1, c2⟩, x0, x1, x2⟩ := unhide HSS _ (hq.mono (Nat.le_succ _))
           clear q3 hq e3)
        | (go_at_call 53
           refine (unhide HY w1 (unhide HA3)).mono ?_
           rintro e w2 ⟨rfl, q2⟩
           have HB2 := hide ((unhide HB1).trans (q2.mono (unhide HZ1)))
           have HZ2 := hide (Nat.le_trans (unhide HZ1) q2.size)
           obtain ⟨⟨c0, c1, c2⟩, x0, x1, x2⟩ := unhide HSS _ ((unhide HB2).mono (Nat.le_succ _))
           clear q2)
        | (go_at_call 53
           refine (unhide HX W2.drew (unhide HA2)).mono ?_
           rintro e w1 ⟨rfl, q1⟩
           have HB1 := hide ((unhide HD).trans (q1.mono (unhide HW3)))
           have HA3 := hide (Below.up (unhide HA2) q1)
           have HZ1 := hide (Nat.le_trans (unhide HW3) q1.size)
           obtain ⟨⟨c0, c1, c2⟩, x0, x1, x2⟩ := unhide HSS _ ((unhide HB1).mono (Nat.le_succ _))
           clear q1)))
    all_goals (go_wp2; exact ret_vsf Tryd.results32 rfl rfl rfl (unhide E3) rfl ((unhide HBB).trans ((unhide HB3).mono (Nat.le_add_right _ _))) (by omega) rfl)
  · go_enter Tryd.func32, Tryd.ntmps32
    go_wp2_with fail
    go_region_held3 (fun w' => (w'.cell? ⟨W.heap.size, 0, none⟩ = some (.int .i64 3) ∧ w'.cell? ⟨W.heap.size, 1, none⟩ = some (.int .i64 n) ∧ w'.cell? ⟨W.heap.size, 2, none⟩ = some (.string s)) ∧ (w'.cell? ⟨W.heap.size + 1, 0, none⟩ = some (.int .i64 4) ∧ w'.cell? ⟨W.heap.size + 1, 1, none⟩ = some (.int .i64 n') ∧ w'.cell? ⟨W.heap.size + 1, 2, none⟩ = some (.string t)))
      (with_reducible first
        | assumption
        | exact unhide HSS _ ((((((unhide HB3).mono (Nat.le_succ _)).setCell (Nat.le_refl _) _).setCell (Nat.le_refl _) _).setCell (Nat.le_refl _) _))
        | exact unhide HSS _ ((unhide HB3).mono (Nat.le_succ _))
        | exact unhide HSS _ ((unhide HB2).mono (Nat.le_succ _))
        | exact unhide HSS _ ((unhide HB1).mono (Nat.le_succ _))
        | exact unhide HSS _ ((unhide HD).mono (Nat.le_succ _))
        | exact unhide HSS _ (Below.refl _ _))
      ((first
        | (go_at_call 61
           refine (unhide HJ _).mono ?_
           unfold Tr Vc
           rintro e w3 ⟨rfl, q3⟩
           have hq := (unhide HB2).trans (q3.mono (unhide HZ2))
           have HB3 := hide hq
           have e3 := Bx.below (unhide B3) hq (Nat.lt_succ_self _)
           obtain ⟨d0, d1, d2, g0, g1, g2, ld⟩ := Bv.all e3
           have E3 := hide e3
           obtain ⟨⟨c0, c1, c2⟩, x0, x1, x2⟩ := unhide HSS _ (hq.mono (Nat.le_succ _))
           clear q3 hq e3)
        | (go_at_call 53
           refine (unhide HY w1 (unhide HA3)).mono ?_
           rintro e w2 ⟨rfl, q2⟩
           have HB2 := hide ((unhide HB1).trans (q2.mono (unhide HZ1)))
           have HZ2 := hide (Nat.le_trans (unhide HZ1) q2.size)
           obtain ⟨⟨c0, c1, c2⟩, x0, x1, x2⟩ := unhide HSS _ ((unhide HB2).mono (Nat.le_succ _))
           clear q2)
        | (go_at_call 53
           refine (unhide HX W2.drew (unhide HA2)).mono ?_
           rintro e w1 ⟨rfl, q1⟩
           have HB1 := hide ((unhide HD).trans (q1.mono (unhide HW3)))
           have HA3 := hide (Below.up (unhide HA2) q1)
           have HZ1 := hide (Nat.le_trans (unhide HW3) q1.size)
           obtain ⟨⟨c0, c1, c2⟩, x0, x1, x2⟩ := unhide HSS _ ((unhide HB1).mono (Nat.le_succ _))
           clear q1)))
    all_goals (go_wp2; exact ret_vsf Tryd.results32 rfl rfl rfl (unhide E3) rfl ((unhide HBB).trans ((unhide HB3).mono (Nat.le_add_right _ _))) (by omega) rfl)
def plusT : ByteArray := ⟨#[84, 121, 112, 101, 69, 114, 114, 111, 114, 58, 32, 43]⟩
theorem plus_no (k n k' n' : Int) (s t : ByteArray) (h3 : (k == 3) = false ∨ (k == 3) = true ∧ (k' == 3) = false) (h : (k == 5) = true ∨ (k == 5) = false ∧ (k' == 5) = true ∨ (k == 5) = false ∧ (k' == 5) = false ∧ (k != 4) = true ∧ (k' != 4) = true) :
    Ret 32 #[.agg (Vc k n s), .agg (Vc k' n' t)] (Tr 0 0 ByteArray.empty plusT 1) := by
  intro W
  unfold Vc
  obtain ⟨W2, hW2, b1, b2, b3, hb, hz⟩ := three_boxes W k n s k' n' t
  obtain ⟨c0, c1, c2, f0, f1, f2, lt⟩ := b1.all
  obtain ⟨x0, x1, x2, y0, y1, y2, ly⟩ := b2.all
  have B3 := hide b3
  have HB := hide hb
  have HZ := hide hz
  clear b1 b2 b3 hb hz
  rcases h3 with h3 | ⟨h3, h4⟩ <;> rcases h with h | ⟨h, h'⟩ | ⟨h, h', h5, h6⟩
  all_goals
    go_enter Tryd.func32, Tryd.ntmps32
    go_wp2_with (go_at_call 57; refine (throw_any plusT (by decide) _).mono ?_; unfold Tr; rintro e w1 ⟨rfl, hb1⟩; unfold Vc; have hz := unhide HZ; have E3 := hide ((unhide B3).below hb1 (by omega)); obtain ⟨d0, d1, d2, g0, g1, g2, lt'⟩ := (unhide E3).all)
    exact ret_vsf Tryd.results32 rfl rfl rfl (unhide E3) rfl ((unhide HB).trans (hb1.mono (by omega))) (by omega) rfl
end Go.Proofs.YthjlhdldomfikaaDoor

/- value.Binary of + where its callee answers in every world above A. -/
namespace Go.Proofs.YthjlhdldomfikaaDoor
set_option linter.unusedSimpArgs false
set_option linter.unusedVariables false
set_option maxRecDepth 100000
set_option maxHeartbeats 1000000
open Go.RowKit Go.Shelf

theorem bin_plus (A : World) (op : ByteArray) (e2 : op = ⟨#[43]⟩) (ka na kb nb ka' na' kb' nb' : Int) (ta tb ta' tb' : ByteArray) (HA : Ret 20 #[.agg (Vc ka na ta)] (.agg (Vc ka' na' ta'))) (HB : Ret 20 #[.agg (Vc kb nb tb)] (.agg (Vc kb' nb' tb'))) (r : R5)
    (h2 : RetA A 32 #[.agg (Vc ka' na' ta'), .agg (Vc kb' nb' tb')] r.tr) : RetA A 12 #[.string op, .agg (Vc ka na ta), .agg (Vc kb nb tb)] r.tr := by
  intro W hA0
  have HA' := hide HA
  have HB' := hide HB
  have H2 := hide h2
  have HA0 := hide hA0
  have n0 : _ := op_ne (op := op) (l := [61, 61, 61]) (fun h => absurd (congrArg ByteArray.size (e2.symm.trans h)) (by decide))
  have n1 : _ := op_ne (op := op) (l := [33, 61, 61]) (fun h => absurd (congrArg ByteArray.size (e2.symm.trans h)) (by decide))
  have E2 := hide e2
  clear HA HB h2 hA0 e2
  unfold Vc at HA' HB' ⊢
  obtain ⟨W2, hW2, b1, b2, b3, hb, hz⟩ := three_boxes W ka na ta kb nb tb
  have T2 : Hid (Three W2 W.heap.size ka na ta kb nb tb) := ⟨b1, b2, b3⟩
  obtain ⟨c0, c1, c2, f0, f1, f2, lt⟩ := b1.all
  obtain ⟨x0, x1, x2, y0, y1, y2, ly⟩ := b2.all
  have HB := hide hb
  have HZ := hide hz
  clear b1 b2 b3 hb hz
  go_enter Tryd.func12, Tryd.ntmps12
  go_upto_region 2 with fail
  go_cut [] from 9 to 12 (fun wx => Three wx W.heap.size ka' na' ta' kb' nb' tb' ∧ Below W.heap.size W wx)
  case first =>
    go_region_with (first
      | (go_at_call_of 20 na
         refine (unhide HA' _).mono ?_
         rintro e wa ⟨rfl, hba⟩
         have h1a : Below W2.heap.size W2 wa := (by first | exact hba | exact ((Below.refl _ W2).drew).trans (hba.mono (by simp)) | exact h1b.trans (hba.mono h1b.size))
         have Ta := hide ((unhide T2).below h1a (by have := unhide HZ; omega))
         obtain ⟨c0, c1, c2, f0, f1, f2, lt⟩ := (unhide Ta).1.all
         obtain ⟨x0, x1, x2, y0, y1, y2, ly⟩ := (unhide Ta).2.1.all
         clear hba)
      | (go_at_call_of 20 nb
         refine (unhide HB' _).mono ?_
         rintro e wb ⟨rfl, hbb⟩
         have h1b : Below W2.heap.size W2 wb := (by first | exact hbb | exact ((Below.refl _ W2).drew).trans (hbb.mono (by simp)) | exact h1a.trans (hbb.mono h1a.size))
         have Tb := hide ((unhide T2).below h1b (by have := unhide HZ; omega))
         obtain ⟨c0, c1, c2, f0, f1, f2, lt⟩ := (unhide Tb).1.all
         obtain ⟨x0, x1, x2, y0, y1, y2, ly⟩ := (unhide Tb).2.1.all
         clear hbb))
    all_goals (go_wp2_with fail; go_meet; case rel => (first
          | exact ⟨three_over1 (unhide Tb), below_put3 (below_put3 ((unhide HB).trans (h1b.mono (by have := unhide HZ; omega))) (by omega) _ _ _) (by omega) _ _ _⟩
          | exact ⟨three_over2 (unhide Tb), below_put3 (below_put3 ((unhide HB).trans (h1b.mono (by have := unhide HZ; omega))) (by omega) _ _ _) (by omega) _ _ _⟩
          | exact ⟨three_over1 (unhide Ta), below_put3 (below_put3 ((unhide HB).trans (h1a.mono (by have := unhide HZ; omega))) (by omega) _ _ _) (by omega) _ _ _⟩
          | exact ⟨three_over2 (unhide Ta), below_put3 (below_put3 ((unhide HB).trans (h1a.mono (by have := unhide HZ; omega))) (by omega) _ _ _) (by omega) _ _ _⟩))
  case rest =>
    obtain ⟨T3, hB3⟩ := hcut
    have s3 := hB3.size
    have T3' := hide T3
    have HB3 := hide hB3
    obtain ⟨c0, c1, c2, f0, f1, f2, lt⟩ := T3.1.all
    obtain ⟨x0, x1, x2, y0, y1, y2, ly⟩ := T3.2.1.all
    have lz := Bx.lt T3.2.2
    clear T3 hB3
    have HC := hide (unhide H2 _ (Below.up (unhide HA0) (unhide HB3)))
    unfold R5.tr Tr Vc at HC
    have e2 := unhide E2
    subst e2
    clear H2
    go_wp2_with (go_at_call 32; refine (unhide HC).mono ?_; rintro e w4 ⟨rfl, hb4⟩; have X4 := hide ((unhide T3').2.2.below hb4 (by omega)); obtain ⟨d0, d1, d2, g0, g1, g2, lt'⟩ := (unhide X4).all)
    exact ret_vsf Tryd.results12 rfl rfl rfl (unhide X4) rfl ((unhide HB3).trans (hb4.mono (by omega))) (by omega) rfl
end Go.Proofs.YthjlhdldomfikaaDoor

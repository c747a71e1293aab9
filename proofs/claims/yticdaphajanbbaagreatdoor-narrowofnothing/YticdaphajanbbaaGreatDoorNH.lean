/- Keep, where it refuses. -/
import Derived.Test.YticdaphajanbbaaGreatDoorNC
import Derived.Test.YticdaphajanbbaaGreatDoorNR1
import Derived.Test.YticdaphajanbbaaGreatDoorNR2
import Derived.Test.YticdaphajanbbaaGreatDoorNR3
namespace Go.Proofs.YticdaphajanbbaaGreatDoor
set_option linter.unusedSimpArgs false
set_option linter.unusedVariables false
set_option maxRecDepth 100000
set_option maxHeartbeats 4000000
open Go.RowKit Go.Shelf

variable {P : Program} {lo M : Nat} {mo : Option Nat} {dv : Value} {L : List Kt} {W : World}
/-- The boxes that Keep begins with. -/
structure KB (W : World) (tk : Int) (tt : ByteArray) (ty : Int) (yes : Bool) (W1 : World) : Prop where
  b : Below W.heap.size W W1
  t : Bx W1 W.heap.size #[.int .i64 tk, .string tt, .int .i64 ty] 23
  y : Bx W1 (W.heap.size + 1) #[.bool yes] 4
  r : Bx W1 (W.heap.size + 2) #[.int .i64 0] 3
  e : Bx W1 (W.heap.size + 3) #[.int .i64 0] 24
theorem kb_made (W : World) (tk : Int) (tt : ByteArray) (ty : Int) (yes : Bool) (W1 : World) (h : (((W.alloc (.cells #[.int .i64 tk, .string tt, .int .i64 ty] 23)).alloc (.cells #[.bool yes] 4)).alloc (.cells #[.int .i64 0] 3)).alloc (.cells #[.int .i64 0] 24) = W1) : KB W tk tt ty yes W1 ∧ W1.heap.size = W.heap.size + 4 := by
  obtain ⟨A1, h1⟩ : ∃ A1, W.alloc (.cells #[.int .i64 tk, .string tt, .int .i64 ty] 23) = A1 := ⟨_, rfl⟩
  obtain ⟨A2, h2⟩ : ∃ A2, A1.alloc (.cells #[.bool yes] 4) = A2 := ⟨_, rfl⟩
  obtain ⟨A3, h3⟩ : ∃ A3, A2.alloc (.cells #[.int .i64 0] 3) = A3 := ⟨_, rfl⟩
  rw [h1, h2, h3] at h
  have z1 : A1.heap.size = W.heap.size + 1 := by rw [← h1]; simp
  have z2 : A2.heap.size = W.heap.size + 2 := by rw [← h2]; simp [z1]
  have z3 : A3.heap.size = W.heap.size + 3 := by rw [← h3]; simp [z2]
  have z4 : W1.heap.size = W.heap.size + 4 := by rw [← h]; simp [z3]
  have b1 : Below W.heap.size W A1 := by rw [← h1]; exact (Below.refl _ W).alloc (Nat.le_refl _) _
  have b2 : Below A1.heap.size A1 A2 := by rw [← h2]; exact (Below.refl _ _).alloc (Nat.le_refl _) _
  have b3 : Below A2.heap.size A2 A3 := by rw [← h3]; exact (Below.refl _ _).alloc (Nat.le_refl _) _
  have b4 : Below A3.heap.size A3 W1 := by rw [← h]; exact (Below.refl _ _).alloc (Nat.le_refl _) _
  have x0 : Bx A1 W.heap.size #[.int .i64 tk, .string tt, .int .i64 ty] 23 := by rw [← h1]; exact al_at W _
  have x1 : Bx A2 (W.heap.size + 1) #[.bool yes] 4 := by rw [← h2, ← z1]; exact al_at A1 _
  have x2 : Bx A3 (W.heap.size + 2) #[.int .i64 0] 3 := by rw [← h3, ← z2]; exact al_at A2 _
  have x3 : Bx W1 (W.heap.size + 3) #[.int .i64 0] 24 := by rw [← h, ← z3]; exact al_at A3 _
  exact ⟨⟨b1.trans ((b2.mono b1.size).trans ((b3.mono (Nat.le_trans b1.size b2.size)).trans (b4.mono (by omega)))), ((x0.below b2 (by omega)).below b3 (by omega)).below b4 (by omega), (x1.below b3 (by omega)).below b4 (by omega), x2.below b4 (by omega), x3⟩, z4⟩
theorem KB.below {tk ty : Int} {tt : ByteArray} {yes : Bool} {W1 w : World} (h : KB W tk tt ty yes W1) (hz : W1.heap.size = W.heap.size + 4) (hb : Below W1.heap.size W1 w) : KB W tk tt ty yes w :=
  ⟨h.b.trans (hb.mono h.b.size), h.t.below hb (by omega), h.y.below hb (by omega), h.r.below hb (by omega), h.e.below hb (by omega)⟩
theorem KB.ret {tk ty : Int} {tt : ByteArray} {yes : Bool} {w5 : World} (h : KB W tk tt ty yes w5) (r e : Int) (w6 : World) (h6 : (w5.setCell ⟨W.heap.size + 1 + 1, 0, none⟩ (.int .i64 r)).setCell ⟨W.heap.size + 1 + 1 + 1, 0, none⟩ (.int .i64 e) = w6) : w6.cell? ⟨W.heap.size + 1 + 1, 0, none⟩ = some (.int .i64 r) ∧ w6.cell? ⟨W.heap.size + 1 + 1 + 1, 0, none⟩ = some (.int .i64 e) ∧ Below W.heap.size W w6 ∧ W.heap.size + 1 + 1 + 1 < w6.heap.size := by
  have a1 : Bx (w5.setCell ⟨W.heap.size + 1 + 1, 0, none⟩ (.int .i64 r)) (W.heap.size + 1 + 1) #[.int .i64 r] 3 := h.r.set (.int .i64 r)
  have a2 : Bx (w5.setCell ⟨W.heap.size + 1 + 1, 0, none⟩ (.int .i64 r)) (W.heap.size + 1 + 1 + 1) #[.int .i64 0] 24 := (Below.heap_setCell _ _ _ _ (by show W.heap.size + 1 + 1 + 1 ≠ W.heap.size + 1 + 1; omega)).trans h.e
  have b1 : Bx w6 (W.heap.size + 1 + 1) #[.int .i64 r] 3 := by rw [← h6]; exact (Below.heap_setCell _ _ _ _ (by show W.heap.size + 1 + 1 ≠ W.heap.size + 1 + 1 + 1; omega)).trans a1
  have b2 : Bx w6 (W.heap.size + 1 + 1 + 1) #[.int .i64 e] 24 := by rw [← h6]; exact a2.set (.int .i64 e)
  refine ⟨b1.cell 0 rfl, b2.cell 0 rfl, ?_, b2.lt⟩
  rw [← h6]
  exact (h.b.setCell (p := ⟨W.heap.size + 1 + 1, 0, none⟩) (by show W.heap.size ≤ W.heap.size + 1 + 1; omega) _).setCell (p := ⟨W.heap.size + 1 + 1 + 1, 0, none⟩) (by show W.heap.size ≤ W.heap.size + 1 + 1 + 1; omega) _
/-- Refused: the test is none, or there is no arena. -/
theorem keep_bad (ar : Option Addr) (id tk ty : Int) (tt : ByteArray) (yes : Bool) (k : Kt) (W : World) (hA : ∀ w, Below W.heap.size W w → Calls Tryz.prog 8 #[.pointer ar, .agg #[.int .i64 tk, .string tt, .int .i64 ty]] w (AskQ tk tt ty ar k w))
    (hR : ∀ (p : Pt), p.k = k.kind → ∀ w, Calls Tryz.prog 9 #[.agg (Qn.v ⟨tk, tt, ty, ar, p⟩)] w fun e w' => e = .returned (.tuple #[.nilFunc, .bool false]) ∧ Below w.heap.size w w') :
    Calls Tryz.prog 4 #[.pointer ar, .int .i64 id, .agg #[.int .i64 tk, .string tt, .int .i64 ty], .bool yes] W fun e w' => e = .returned (.tuple #[.int .i64 0, .int .i64 1]) ∧ Below W.heap.size W w' := by
  obtain ⟨W1, hW1⟩ : ∃ W1, (((W.alloc (.cells #[.int .i64 tk, .string tt, .int .i64 ty] 23)).alloc (.cells #[.bool yes] 4)).alloc (.cells #[.int .i64 0] 3)).alloc (.cells #[.int .i64 0] 24) = W1 := ⟨_, rfl⟩
  obtain ⟨hk, hz⟩ := kb_made W tk tt ty yes W1 hW1
  have HKB : Hid (∀ w, Below W1.heap.size W1 w → KB W tk tt ty yes w) := fun w hb => hk.below hz hb
  have HZ := hide hz
  have HASK := hide (hA W1 hk.b)
  have HT := hide hk.t
  have HB1 := hide hk.b
  have HR := hide hR
  clear hk hz hA hR
  cases hn : (ar == none) with
  | true => 
    have : ar = none := by simpa using hn
    subst this
    go_enter Tryz.func4, Tryz.ntmps4
    go_wp2
    go_step3
    go_wp2_with (first
      | (have hx0 := unhide HT
         refine wpList_load_row rfl 23 _ rfl W.heap.size rfl 23 _ (0, 0) _ hx0 Tryz.underlying23 rfl info23 ?_
         clear HT)
      | (go_at_call 8
         refine (unhide HASK).mono ?_
         rintro e w2 ⟨⟨k', n, t, pa, a, b, na, c, d, ma, x, f, i'⟩, rfl, hkk, hb2⟩
         have HKK := hide hkk
         have HB2 := hide hb2
         unfold Qn.v
         dsimp only
         clear HASK hkk hb2)
      | (have hb3 := unhide HB2
         refine wpList_store_row rfl 40 _ _ rfl w2.heap.size _ rfl rfl 40 _ (al_at w2 _) info40 rfl (one11 ⟨_, _, _, _, ⟨_, _, _, _, _, _, _, _, _, _, _, _, _⟩⟩) ?_
         obtain ⟨w3, hw3⟩ : ∃ w3, (w2.alloc (.cells #[.int .i64 0, .string ⟨#[]⟩, .int .i64 0, .pointer none, .int .i64 0, .int .i64 0, .string ⟨#[]⟩, .slice none 0 0, .slice none 0 0, .slice none 0 0, .int .i64 0] 40)).setRow w2.heap.size #[.int .i64 tk, .string tt, .int .i64 ty, .pointer none, .int .i64 k', .int .i64 n, .string t, .slice pa a b, .slice na c d, .slice ma x f, .int .i64 i'] = w3 := ⟨_, rfl⟩
         have HX3 : Hid (Bx w3 w2.heap.size #[.int .i64 tk, .string tt, .int .i64 ty, .pointer none, .int .i64 k', .int .i64 n, .string t, .slice pa a b, .slice na c d, .slice ma x f, .int .i64 i'] 40) := (by rw [← hw3]; exact setRow_heap _ _ _ _ _ _ (al_at w2 _))
         have HB3 : Hid (Below W1.heap.size W1 w3) := (by rw [← hw3]; exact below_row (hb3.alloc hb3.size _) hb3.size _)
         have HQ := hide (unhide HR ⟨k', n, t, pa, a, b, na, c, d, ma, x, f, i'⟩ (unhide HKK) w3)
         unfold Qn.v at HQ
         dsimp only at HQ
         obtain ⟨y0, y1, y2, y3, y4, y5, y6, y7, y8, y9, y10⟩ := cells11 (unhide HX3)
         have ly := (unhide HX3).lt
         clear hb3 HB2 HR)
      | (go_at_call 9
         refine (unhide HQ).mono ?_
         rintro e w4 ⟨rfl, hb4⟩
         have hb5 := (unhide HB3).trans (hb4.mono (unhide HB3).size)
         have HB4 := hide hb5
         obtain ⟨w5, hw5⟩ : ∃ w5, (w4.alloc (.cells #[.nilFunc] 43)).setCell ⟨w4.heap.size, 0, none⟩ .nilFunc = w5 := ⟨_, rfl⟩
         have hb6 : Below W1.heap.size W1 w5 := (by rw [← hw5]; exact (hb5.alloc hb5.size _).setCell hb5.size _)
         have hkb := unhide HKB w5 hb6
         have r0 := hkb.r.cell 0 rfl
         have r1 := hkb.e.cell 0 rfl
         have f0 := hkb.r.free 0
         have f1 := hkb.e.free 0
         have l3 := hkb.e.lt
         have HK5 := hide hkb
         have HB6 := hide hb6
         clear hb4 hb5 hb6 hkb HQ y0 y1 y2 y3 y4 y5 y6 y7 y8 y9 y10 ly))
    rw [Exit.noGoto_ret]
    obtain ⟨w6, hw6⟩ : ∃ w6, (w5.setCell ⟨W.heap.size + 1 + 1, 0, none⟩ (.int .i64 0)).setCell ⟨W.heap.size + 1 + 1 + 1, 0, none⟩ (.int .i64 1) = w6 := ⟨_, rfl⟩
    obtain ⟨z0, z1, zb, zl⟩ := (unhide HK5).ret 0 1 w6 hw6
    rw [hw6]
    have zl2 : W.heap.size + 1 + 1 < w6.heap.size := by omega
    clear hw6 r0 r1 f0 f1
    refine bodyPost_ret (v := .tuple #[.int .i64 0, .int .i64 1]) ?_ rfl ⟨rfl, zb⟩
    simp [results, Tryz.results4, go_sem, z0, z1]
  | false =>
    obtain ⟨ad, rfl⟩ : ∃ ad, ar = some ad := by cases ar with | none => simp at hn | some ad => exact ⟨ad, rfl⟩
    clear hn
    go_enter Tryz.func4, Tryz.ntmps4
    go_wp2
    go_step3
    go_wp2_with (first
      | (have hx0 := unhide HT
         refine wpList_load_row rfl 23 _ rfl W.heap.size rfl 23 _ (0, 0) _ hx0 Tryz.underlying23 rfl info23 ?_
         clear HT)
      | (go_at_call 8
         refine (unhide HASK).mono ?_
         rintro e w2 ⟨⟨k', n, t, pa, a, b, na, c, d, ma, x, f, i'⟩, rfl, hkk, hb2⟩
         have HKK := hide hkk
         have HB2 := hide hb2
         unfold Qn.v
         dsimp only
         clear HASK hkk hb2)
      | (have hb3 := unhide HB2
         refine wpList_store_row rfl 40 _ _ rfl w2.heap.size _ rfl rfl 40 _ (al_at w2 _) info40 rfl (one11 ⟨_, _, _, _, ⟨_, _, _, _, _, _, _, _, _, _, _, _, _⟩⟩) ?_
         obtain ⟨w3, hw3⟩ : ∃ w3, (w2.alloc (.cells #[.int .i64 0, .string ⟨#[]⟩, .int .i64 0, .pointer none, .int .i64 0, .int .i64 0, .string ⟨#[]⟩, .slice none 0 0, .slice none 0 0, .slice none 0 0, .int .i64 0] 40)).setRow w2.heap.size #[.int .i64 tk, .string tt, .int .i64 ty, .pointer (some ad), .int .i64 k', .int .i64 n, .string t, .slice pa a b, .slice na c d, .slice ma x f, .int .i64 i'] = w3 := ⟨_, rfl⟩
         have HX3 : Hid (Bx w3 w2.heap.size #[.int .i64 tk, .string tt, .int .i64 ty, .pointer (some ad), .int .i64 k', .int .i64 n, .string t, .slice pa a b, .slice na c d, .slice ma x f, .int .i64 i'] 40) := (by rw [← hw3]; exact setRow_heap _ _ _ _ _ _ (al_at w2 _))
         have HB3 : Hid (Below W1.heap.size W1 w3) := (by rw [← hw3]; exact below_row (hb3.alloc hb3.size _) hb3.size _)
         have HQ := hide (unhide HR ⟨k', n, t, pa, a, b, na, c, d, ma, x, f, i'⟩ (unhide HKK) w3)
         unfold Qn.v at HQ
         dsimp only at HQ
         obtain ⟨y0, y1, y2, y3, y4, y5, y6, y7, y8, y9, y10⟩ := cells11 (unhide HX3)
         have ly := (unhide HX3).lt
         clear hb3 HB2 HR)
      | (go_at_call 9
         refine (unhide HQ).mono ?_
         rintro e w4 ⟨rfl, hb4⟩
         have hb5 := (unhide HB3).trans (hb4.mono (unhide HB3).size)
         have HB4 := hide hb5
         obtain ⟨w5, hw5⟩ : ∃ w5, (w4.alloc (.cells #[.nilFunc] 43)).setCell ⟨w4.heap.size, 0, none⟩ .nilFunc = w5 := ⟨_, rfl⟩
         have hb6 : Below W1.heap.size W1 w5 := (by rw [← hw5]; exact (hb5.alloc hb5.size _).setCell hb5.size _)
         have hkb := unhide HKB w5 hb6
         have r0 := hkb.r.cell 0 rfl
         have r1 := hkb.e.cell 0 rfl
         have f0 := hkb.r.free 0
         have f1 := hkb.e.free 0
         have l3 := hkb.e.lt
         have HK5 := hide hkb
         have HB6 := hide hb6
         clear hb4 hb5 hb6 hkb HQ y0 y1 y2 y3 y4 y5 y6 y7 y8 y9 y10 ly))
    rw [Exit.noGoto_ret]
    obtain ⟨w6, hw6⟩ : ∃ w6, (w5.setCell ⟨W.heap.size + 1 + 1, 0, none⟩ (.int .i64 0)).setCell ⟨W.heap.size + 1 + 1 + 1, 0, none⟩ (.int .i64 1) = w6 := ⟨_, rfl⟩
    obtain ⟨z0, z1, zb, zl⟩ := (unhide HK5).ret 0 1 w6 hw6
    rw [hw6]
    have zl2 : W.heap.size + 1 + 1 < w6.heap.size := by omega
    clear hw6 r0 r1 f0 f1
    refine bodyPost_ret (v := .tuple #[.int .i64 0, .int .i64 1]) ?_ rfl ⟨rfl, zb⟩
    simp [results, Tryz.results4, go_sem, z0, z1]
/-- Refused: there is no arena. -/
theorem keep_nil (m : Nat) (id tk ty : Int) (tt : ByteArray) (yes : Bool) (k : Kt) (W : World) (hA : ∀ w, Below W.heap.size W w → Calls Tryz.prog 8 #[.pointer none, .agg #[.int .i64 tk, .string tt, .int .i64 ty]] w (AskQ tk tt ty none k w))
    (hR : ∀ (p : Pt), p.k = k.kind → ∀ w, Calls Tryz.prog 9 #[.agg (Qn.v ⟨tk, tt, ty, none, p⟩)] w fun e w' => e = .returned (.tuple #[.func (.func m) #[.agg (Qn.v ⟨tk, tt, ty, none, p⟩)] #[], .bool true]) ∧ Below w.heap.size w w') :
    Calls Tryz.prog 4 #[.pointer none, .int .i64 id, .agg #[.int .i64 tk, .string tt, .int .i64 ty], .bool yes] W fun e w' => e = .returned (.tuple #[.int .i64 0, .int .i64 1]) ∧ Below W.heap.size W w' := by
  obtain ⟨W1, hW1⟩ : ∃ W1, (((W.alloc (.cells #[.int .i64 tk, .string tt, .int .i64 ty] 23)).alloc (.cells #[.bool yes] 4)).alloc (.cells #[.int .i64 0] 3)).alloc (.cells #[.int .i64 0] 24) = W1 := ⟨_, rfl⟩
  obtain ⟨hk, hz⟩ := kb_made W tk tt ty yes W1 hW1
  have HKB : Hid (∀ w, Below W1.heap.size W1 w → KB W tk tt ty yes w) := fun w hb => hk.below hz hb
  have HZ := hide hz
  have HASK := hide (hA W1 hk.b)
  have HT := hide hk.t
  have HB1 := hide hk.b
  have HR := hide hR
  clear hk hz hA hR
  go_enter Tryz.func4, Tryz.ntmps4
  go_wp2
  go_step3
  go_wp2_with (first
      | (have hx0 := unhide HT
         refine wpList_load_row rfl 23 _ rfl W.heap.size rfl 23 _ (0, 0) _ hx0 Tryz.underlying23 rfl info23 ?_
         clear HT)
      | (go_at_call 8
         refine (unhide HASK).mono ?_
         rintro e w2 ⟨⟨k', n, t, pa, a, b, na, c, d, ma, x, f, i'⟩, rfl, hkk, hb2⟩
         have HKK := hide hkk
         have HB2 := hide hb2
         unfold Qn.v
         dsimp only
         clear HASK hkk hb2)
      | (have hb3 := unhide HB2
         refine wpList_store_row rfl 40 _ _ rfl w2.heap.size _ rfl rfl 40 _ (al_at w2 _) info40 rfl (one11 ⟨_, _, _, _, ⟨_, _, _, _, _, _, _, _, _, _, _, _, _⟩⟩) ?_
         obtain ⟨w3, hw3⟩ : ∃ w3, (w2.alloc (.cells #[.int .i64 0, .string ⟨#[]⟩, .int .i64 0, .pointer none, .int .i64 0, .int .i64 0, .string ⟨#[]⟩, .slice none 0 0, .slice none 0 0, .slice none 0 0, .int .i64 0] 40)).setRow w2.heap.size #[.int .i64 tk, .string tt, .int .i64 ty, .pointer none, .int .i64 k', .int .i64 n, .string t, .slice pa a b, .slice na c d, .slice ma x f, .int .i64 i'] = w3 := ⟨_, rfl⟩
         have HX3 : Hid (Bx w3 w2.heap.size #[.int .i64 tk, .string tt, .int .i64 ty, .pointer none, .int .i64 k', .int .i64 n, .string t, .slice pa a b, .slice na c d, .slice ma x f, .int .i64 i'] 40) := (by rw [← hw3]; exact setRow_heap _ _ _ _ _ _ (al_at w2 _))
         have HB3 : Hid (Below W1.heap.size W1 w3) := (by rw [← hw3]; exact below_row (hb3.alloc hb3.size _) hb3.size _)
         have HQ := hide (unhide HR ⟨k', n, t, pa, a, b, na, c, d, ma, x, f, i'⟩ (unhide HKK) w3)
         unfold Qn.v at HQ
         dsimp only at HQ
         obtain ⟨y0, y1, y2, y3, y4, y5, y6, y7, y8, y9, y10⟩ := cells11 (unhide HX3)
         have ly := (unhide HX3).lt
         clear hb3 HB2 HR)
      | (go_at_call 9
         refine (unhide HQ).mono ?_
         rintro e w4 ⟨rfl, hb4⟩
         have hb5 := (unhide HB3).trans (hb4.mono (unhide HB3).size)
         have HB4 := hide hb5
         obtain ⟨w5, hw5⟩ : ∃ w5, (w4.alloc (.cells #[.nilFunc] 43)).setCell ⟨w4.heap.size, 0, none⟩ (.func (.func m) #[.agg #[.int .i64 tk, .string tt, .int .i64 ty, .pointer none, .int .i64 k', .int .i64 n, .string t, .slice pa a b, .slice na c d, .slice ma x f, .int .i64 i']] #[]) = w5 := ⟨_, rfl⟩
         have hb6 : Below W1.heap.size W1 w5 := (by rw [← hw5]; exact (hb5.alloc hb5.size _).setCell hb5.size _)
         have hkb := unhide HKB w5 hb6
         have r0 := hkb.r.cell 0 rfl
         have r1 := hkb.e.cell 0 rfl
         have f0 := hkb.r.free 0
         have f1 := hkb.e.free 0
         have l3 := hkb.e.lt
         have HK5 := hide hkb
         have HB6 := hide hb6
         clear hb4 hb5 hb6 hkb HQ y0 y1 y2 y3 y4 y5 y6 y7 y8 y9 y10 ly))
  rw [Exit.noGoto_ret]
  obtain ⟨w6, hw6⟩ : ∃ w6, (w5.setCell ⟨W.heap.size + 1 + 1, 0, none⟩ (.int .i64 0)).setCell ⟨W.heap.size + 1 + 1 + 1, 0, none⟩ (.int .i64 1) = w6 := ⟨_, rfl⟩
  obtain ⟨z0, z1, zb, zl⟩ := (unhide HK5).ret 0 1 w6 hw6
  rw [hw6]
  have zl2 : W.heap.size + 1 + 1 < w6.heap.size := by omega
  clear hw6 r0 r1 f0 f1
  refine bodyPost_ret (v := .tuple #[.int .i64 0, .int .i64 1]) ?_ rfl ⟨rfl, zb⟩
  simp [results, Tryz.results4, go_sem, z0, z1]
/-- Refused: there is no such type. -/
theorem keep_out (m : Nat) (id tk ty : Int) (tt : ByteArray) (yes : Bool) (k : Kt) (W : World) (hA : ∀ w, Below W.heap.size W w → Calls Tryz.prog 8 #[.pointer (some ⟨M, 0, none⟩), .agg #[.int .i64 tk, .string tt, .int .i64 ty]] w (AskQ tk tt ty (some ⟨M, 0, none⟩) k w))
    (hR : ∀ (p : Pt), p.k = k.kind → ∀ w, Calls Tryz.prog 9 #[.agg (Qn.v ⟨tk, tt, ty, (some ⟨M, 0, none⟩), p⟩)] w fun e w' => e = .returned (.tuple #[.func (.func m) #[.agg (Qn.v ⟨tk, tt, ty, (some ⟨M, 0, none⟩), p⟩)] #[], .bool true]) ∧ Below w.heap.size w w')
    (hH : ∀ w, Below W.heap.size W w → Calls Tryz.prog 10 #[.pointer (some ⟨M, 0, none⟩), .int .i64 id] w fun e w' => e = .returned (.bool false) ∧ w' = w) :
    Calls Tryz.prog 4 #[.pointer (some ⟨M, 0, none⟩), .int .i64 id, .agg #[.int .i64 tk, .string tt, .int .i64 ty], .bool yes] W fun e w' => e = .returned (.tuple #[.int .i64 0, .int .i64 11]) ∧ Below W.heap.size W w' := by
  obtain ⟨W1, hW1⟩ : ∃ W1, (((W.alloc (.cells #[.int .i64 tk, .string tt, .int .i64 ty] 23)).alloc (.cells #[.bool yes] 4)).alloc (.cells #[.int .i64 0] 3)).alloc (.cells #[.int .i64 0] 24) = W1 := ⟨_, rfl⟩
  obtain ⟨hk, hz⟩ := kb_made W tk tt ty yes W1 hW1
  have HKB : Hid (∀ w, Below W1.heap.size W1 w → KB W tk tt ty yes w) := fun w hb => hk.below hz hb
  have HZ := hide hz
  have HASK := hide (hA W1 hk.b)
  have HT := hide hk.t
  have HB1 := hide hk.b
  have HR := hide hR
  have HH : Hid (∀ w, Below W1.heap.size W1 w → Calls Tryz.prog 10 #[.pointer (some ⟨M, 0, none⟩), .int .i64 id] w fun e w' => e = .returned (.bool false) ∧ w' = w) := fun w hb => hH w (hk.b.trans (hb.mono hk.b.size))
  clear hH
  clear hk hz hA hR
  go_enter Tryz.func4, Tryz.ntmps4
  go_wp2
  go_step3
  go_wp2_with (first
      | (have hx0 := unhide HT
         refine wpList_load_row rfl 23 _ rfl W.heap.size rfl 23 _ (0, 0) _ hx0 Tryz.underlying23 rfl info23 ?_
         clear HT)
      | (go_at_call 8
         refine (unhide HASK).mono ?_
         rintro e w2 ⟨⟨k', n, t, pa, a, b, na, c, d, ma, x, f, i'⟩, rfl, hkk, hb2⟩
         have HKK := hide hkk
         have HB2 := hide hb2
         unfold Qn.v
         dsimp only
         clear HASK hkk hb2)
      | (have hb3 := unhide HB2
         refine wpList_store_row rfl 40 _ _ rfl w2.heap.size _ rfl rfl 40 _ (al_at w2 _) info40 rfl (one11 ⟨_, _, _, _, ⟨_, _, _, _, _, _, _, _, _, _, _, _, _⟩⟩) ?_
         obtain ⟨w3, hw3⟩ : ∃ w3, (w2.alloc (.cells #[.int .i64 0, .string ⟨#[]⟩, .int .i64 0, .pointer none, .int .i64 0, .int .i64 0, .string ⟨#[]⟩, .slice none 0 0, .slice none 0 0, .slice none 0 0, .int .i64 0] 40)).setRow w2.heap.size #[.int .i64 tk, .string tt, .int .i64 ty, .pointer (some ⟨M, 0, none⟩), .int .i64 k', .int .i64 n, .string t, .slice pa a b, .slice na c d, .slice ma x f, .int .i64 i'] = w3 := ⟨_, rfl⟩
         have HX3 : Hid (Bx w3 w2.heap.size #[.int .i64 tk, .string tt, .int .i64 ty, .pointer (some ⟨M, 0, none⟩), .int .i64 k', .int .i64 n, .string t, .slice pa a b, .slice na c d, .slice ma x f, .int .i64 i'] 40) := (by rw [← hw3]; exact setRow_heap _ _ _ _ _ _ (al_at w2 _))
         have HB3 : Hid (Below W1.heap.size W1 w3) := (by rw [← hw3]; exact below_row (hb3.alloc hb3.size _) hb3.size _)
         have HQ := hide (unhide HR ⟨k', n, t, pa, a, b, na, c, d, ma, x, f, i'⟩ (unhide HKK) w3)
         unfold Qn.v at HQ
         dsimp only at HQ
         obtain ⟨y0, y1, y2, y3, y4, y5, y6, y7, y8, y9, y10⟩ := cells11 (unhide HX3)
         have ly := (unhide HX3).lt
         clear hb3 HB2 HR)
      | (go_at_call 9
         refine (unhide HQ).mono ?_
         rintro e w4 ⟨rfl, hb4⟩
         have hb5 := (unhide HB3).trans (hb4.mono (unhide HB3).size)
         have HB4 := hide hb5
         obtain ⟨w5, hw5⟩ : ∃ w5, (w4.alloc (.cells #[.nilFunc] 43)).setCell ⟨w4.heap.size, 0, none⟩ (.func (.func m) #[.agg #[.int .i64 tk, .string tt, .int .i64 ty, .pointer (some ⟨M, 0, none⟩), .int .i64 k', .int .i64 n, .string t, .slice pa a b, .slice na c d, .slice ma x f, .int .i64 i']] #[]) = w5 := ⟨_, rfl⟩
         have hb6 : Below W1.heap.size W1 w5 := (by rw [← hw5]; exact (hb5.alloc hb5.size _).setCell hb5.size _)
         have hkb := unhide HKB w5 hb6
         have r0 := hkb.r.cell 0 rfl
         have r1 := hkb.e.cell 0 rfl
         have f0 := hkb.r.free 0
         have f1 := hkb.e.free 0
         have l3 := hkb.e.lt
         have HK5 := hide hkb
         have HB6 := hide hb6
         clear hb4 hb5 hb6 hkb HQ y0 y1 y2 y3 y4 y5 y6 y7 y8 y9 y10 ly)
      | (go_at_call 10
         refine (unhide HH w5 (unhide HB6)).mono ?_
         rintro e w7 ⟨rfl, h7⟩
         rw [h7]
         clear h7))
  rw [Exit.noGoto_ret]
  obtain ⟨w6, hw6⟩ : ∃ w6, (w5.setCell ⟨W.heap.size + 1 + 1, 0, none⟩ (.int .i64 0)).setCell ⟨W.heap.size + 1 + 1 + 1, 0, none⟩ (.int .i64 11) = w6 := ⟨_, rfl⟩
  obtain ⟨z0, z1, zb, zl⟩ := (unhide HK5).ret 0 11 w6 hw6
  rw [hw6]
  have zl2 : W.heap.size + 1 + 1 < w6.heap.size := by omega
  clear hw6 r0 r1 f0 f1
  refine bodyPost_ret (v := .tuple #[.int .i64 0, .int .i64 11]) ?_ rfl ⟨rfl, zb⟩
  simp [results, Tryz.results4, go_sem, z0, z1]
end Go.Proofs.YticdaphajanbbaaGreatDoor

/- At of an array by a number; Get of an array's length. -/
import Derived.Test.YtdgocaokmmhenaaGreatDoorH9
namespace Go.Proofs.YtdgocaokmmhenaaGreatDoor
set_option linter.unusedSimpArgs false
set_option linter.unusedVariables false
set_option maxRecDepth 100000
set_option maxHeartbeats 2000000
open Go.RowKit Go.Shelf

variable {w W : World} {l : Ly} {hb : Nat} {H : PH}
/-- A box that is written over. -/
theorem over (w : World) (b : Nat) (k n k' n' : Int) (t t' : ByteArray) (h : Bv w b k n t) : ∃ W3, ((w.setCell ⟨b, 0, none⟩ (.int .i64 k')).setCell ⟨b, 1, none⟩ (.int .i64 n')).setCell ⟨b, 2, none⟩ (.string t') = W3 ∧ Bv W3 b k' n' t' ∧ (∀ B a, Below B a w → B ≤ b → Below B a W3) ∧ (∀ c k n t, Bv w c k n t → c ≠ b → Bv W3 c k n t) ∧ W3.heap.size = w.heap.size :=
  ⟨_, rfl, Bx.puts h _ _ _, fun B a hb hB => below_put3 hb hB _ _ _, fun c k n t hc hne => Bx.puts_ne hc hne _ _ _, size_put3 _ _ _ _ _⟩
theorem stl_ref (H : PH) (i : Nat) (t : Th) (hi : H.ths[i]? = some t) (s : ByteArray) : stl H ⟨5, i, s⟩ = ⟨5, i, ByteArray.empty⟩ := by
  have := (List.getElem?_eq_some_iff.1 hi).1
  simp [stl, isTh]; omega
theorem At_arr (h : HAt W l hb H) (i : Nat) (t : Th) (hi : H.ths[i]? = some t) (hk : t.kind = 2) (n : Int) (k1 n1 : Int) (t1 : ByteArray) (hr : atP t.vals (clampN n) = ⟨k1, n1, t1⟩) (hs : t1.size ≤ 281474976710656) :
    Calls Tryz.prog 20 #[ptr hb, .agg (Vc 5 i ⟨#[]⟩), .agg (Vc 3 n ⟨#[]⟩)] W fun e w' => e = .returned (Tr k1 n1 t1 ⟨#[]⟩ 0) ∧ Below W.heap.size W w' := by
  obtain ⟨W2, hW2, b1, b2, b3, hb', hz⟩ := three_boxes W 5 i ⟨#[]⟩ 3 n ⟨#[]⟩
  obtain ⟨c0, c1, c2, f0, f1, f2, lt⟩ := b1.all
  obtain ⟨d0, d1, d2, g0, g1, g2, ltd⟩ := b2.all
  have B1 := hide b1
  have B2 := hide b2
  have B3 := hide b3
  have HB := hide hb'
  have HZ := hide hz
  have HS1 : Hid (∀ w1, Below W.heap.size W w1 → Calls Tryz.prog 41 #[ptr hb, .agg (Vc 5 i ⟨#[]⟩)] w1 fun e w' => e = .returned (.agg (Vc 5 i ByteArray.empty)) ∧ Below w1.heap.size w1 w') := fun w1 hb1 => by
    have := settled_any (h.below hb1) ⟨5, i, ⟨#[]⟩⟩
    rw [stl_ref H i t hi] at this
    exact this
  obtain ⟨m, hm⟩ : ∃ m, clampN n = m := ⟨_, rfl⟩
  have HS2 : Hid (∀ w1, Below W.heap.size W w1 → Calls Tryz.prog 41 #[ptr hb, .agg (Vc 3 n ⟨#[]⟩)] w1 fun e w' => e = .returned (.agg (Vc 3 m ByteArray.empty)) ∧ Below w1.heap.size w1 w') := fun w1 hb1 => settled_3 _ n _ m hm w1
  have HA : Hid (∀ w1, Below W.heap.size W w1 → Calls Tryz.prog 57 #[ptr hb, .agg (Vc 5 i ByteArray.empty)] w1 fun e w' => e = .returned (.tuple #[ptr (l.bx i), .bool true]) ∧ Below w1.heap.size w1 w') := fun w1 hb1 => array_yes (h.below hb1) i t hi hk _
  have HQ : Hid (∀ w1, Below W.heap.size W w1 → Calls Tryz.prog 58 #[ptr (l.bx i), .int .i64 m] w1 fun e w' => e = .returned (.agg (Vc k1 n1 t1)) ∧ Below w1.heap.size w1 w') := fun w1 hb1 => by
    have := at_any (h.below hb1) i t hi hk m
    rw [← hm, hr] at this
    rw [← hm]
    exact this
  have HT := hide (told_any k1 n1 t1 hs)
  obtain ⟨b, hbb⟩ : ∃ b, l.bx i = b := ⟨_, rfl⟩
  rw [hbb] at HA HQ
  unfold Tr at HT
  unfold Vc ptr at HS1 HS2 HA HQ
  unfold Tr
  unfold Vc at HT ⊢
  unfold ptr
  clear h hi hk hr hs b1 b2 b3 hb' hz hbb hm
  go_enter Tryz.func20, Tryz.ntmps20
  go_wp2
  go_region_law (first
    | (go_simp; go_at_call 41; refine (unhide HS2 w3 (unhide HB3)).mono ?_; rintro e w4 ⟨rfl, hb4⟩; have E1 := hide ((unhide E1).below hb4 (by omega)); have E2 := hide ((unhide E2).below hb4 (by omega)); have E3 := hide ((unhide E3).below hb4 (by omega)); have HB4 := hide ((unhide HB3).trans (hb4.mono (by omega))); have hz4 := hb4.size; obtain ⟨c0, c1, c2, f0, f1, f2, lt⟩ := (unhide E1).all; obtain ⟨d0, d1, d2, g0, g1, g2, ltd⟩ := (unhide E2).all; clear hb4)
    | (go_simp; go_at_call 41; refine (unhide HS1 W2.drew (unhide HB).drew).mono ?_; rintro e w3 ⟨rfl, hb3⟩; have hz := unhide HZ; have hb3' : Below W2.heap.size W2 w3 := (Below.refl _ W2).drew.trans hb3; have E1 := hide ((unhide B1).below hb3' (by omega)); have E2 := hide ((unhide B2).below hb3' (by omega)); have E3 := hide ((unhide B3).below hb3' (by omega)); have HB3 := hide ((unhide HB).trans (hb3'.mono (by omega))); have hz3 := hb3'.size; obtain ⟨c0, c1, c2, f0, f1, f2, lt⟩ := (unhide E1).all; obtain ⟨d0, d1, d2, g0, g1, g2, ltd⟩ := (unhide E2).all; clear hb3 hb3'))
  all_goals (
    obtain ⟨W5, hW5, e1, e2, e3, e4⟩ := over w4 W.heap.size 5 i 5 i ⟨#[]⟩ ByteArray.empty (unhide E1)
    have F2 := e3 _ _ _ _ (unhide E2) (by omega)
    have F3 := e3 _ _ _ _ (unhide E3) (by omega)
    have FB := e2 _ _ (unhide HB4) (Nat.le_refl _)
    obtain ⟨W6, hW6, g1, g2, g3, g4⟩ := over W5 (W.heap.size + 1) 3 n 3 m ⟨#[]⟩ ByteArray.empty F2
    have G1 := hide (g3 _ _ _ _ e1 (by omega))
    have G2 := hide g1
    have G3 := hide (g3 _ _ _ _ F3 (by omega))
    have GB := hide (g2 _ _ FB (by omega))
    have hz6 : w4.heap.size = W6.heap.size := by omega
    clear e1 e2 e3 e4 F2 F3 FB g1 g2 g3 g4
    clear c0 c1 c2 f0 f1 f2 d0 d1 d2 g0
    obtain ⟨c0, c1, c2, f0, f1, f2, lt⟩ := (unhide G1).all
    obtain ⟨d0, d1, d2, g0, g1, g2, ltd⟩ := (unhide G2).all
    go_wp2_with (first
      | (go_at_call 57; refine (unhide HA W6 (unhide GB)).mono ?_; rintro e w7 ⟨rfl, hb7⟩; have hz7 := hb7.size; have G2 := hide ((unhide G2).below hb7 (by omega)); have G3 := hide ((unhide G3).below hb7 (by omega)); have GB7 := hide ((unhide GB).trans (hb7.mono (by omega))); obtain ⟨d0, d1, d2, g0, g1, g2, ltd⟩ := (unhide G2).all; clear hb7)
      | (go_at_call 58; refine (unhide HQ w7 (unhide GB7)).mono ?_; rintro e w8 ⟨rfl, hb8⟩; have hz8 := hb8.size; have G3 := hide ((unhide G3).below hb8 (by omega)); have GB8 := hide ((unhide GB7).trans (hb8.mono (by omega))); clear hb8)
      | (go_at_call 47; refine (unhide HT _).mono ?_; rintro e w9 ⟨rfl, hb9⟩; have G3 := hide ((unhide G3).below hb9 (by omega)); have GB9 := hide ((unhide GB8).trans (hb9.mono (by omega))); obtain ⟨x0, x1, x2, y0, y1, y2, ly⟩ := (unhide G3).all; clear hb9))
    exact ret_vsf Tryz.results20 rfl rfl rfl (unhide G3) rfl (unhide GB9) (by omega) rfl)
end Go.Proofs.YtdgocaokmmhenaaGreatDoor

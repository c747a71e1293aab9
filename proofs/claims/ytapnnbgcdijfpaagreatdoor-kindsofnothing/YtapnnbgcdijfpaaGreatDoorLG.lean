/- KindsOfNothing walked. -/
import Derived.Test.YtapnnbgcdijfpaaGreatDoorLF
namespace Go.Proofs.YtapnnbgcdijfpaaGreatDoor
set_option linter.unusedSimpArgs false
set_option linter.unusedVariables false
set_option maxRecDepth 100000
set_option maxHeartbeats 8000000
open Go.RowKit Go.Shelf

theorem nothing_any (id : Int) (s : Sp) (W : World) (hn : StrRow W s.na s.nn s.nc 1) (hp : StrRow W s.ca s.cn s.cc 3) :
    Calls Tryz.prog 3 #[.int .i64 id, .agg s.cells] W fun e w' => e = .returned (.bool true) ∧ Below W.heap.size W w' := by
  obtain ⟨W1, hW1⟩ : ∃ W1, W.alloc (.cells #[.int .i64 s.kind, .int .i64 s.tk, .int .i64 s.tn, .string s.tt, .slice s.pa s.pn s.pc, .slice s.na s.nn s.nc, .slice s.ma s.mn s.mc, .int .i64 s.id, .slice s.ia s.il s.ic, .int .i64 s.node, .slice s.va s.vn s.vc, .slice s.ca s.cn s.cc] 29) = W1 := ⟨_, rfl⟩
  have hb1 : Below W.heap.size W W1 := by rw [← hW1]; exact (Below.refl _ W).alloc (Nat.le_refl _) _
  have hx1 : Bx W1 W.heap.size s.cells 29 := by rw [← hW1]; exact al_at W _
  have HX : Hid (∀ w', Below W1.heap.size W1 w' → Bx w' W.heap.size s.cells 29) := fun w' hb => hx1.below hb hx1.lt
  have HR : Hid (∀ w', Below W1.heap.size W1 w' → w'.rangeAt W.heap.size 1 [.int .i64 s.tk, .int .i64 s.tn, .string s.tt, .slice s.pa s.pn s.pc, .slice s.na s.nn s.nc, .slice s.ma s.mn s.mc]) := fun w' hb j v hj => by
    have hx := hx1.below hb hx1.lt
    match j, hj with
    | 0, hj => simp at hj; subst hj; exact hx.cell 1 rfl
    | 1, hj => simp at hj; subst hj; exact hx.cell 2 rfl
    | 2, hj => simp at hj; subst hj; exact hx.cell 3 rfl
    | 3, hj => simp at hj; subst hj; exact hx.cell 4 rfl
    | 4, hj => simp at hj; subst hj; exact hx.cell 5 rfl
    | 5, hj => simp at hj; subst hj; exact hx.cell 6 rfl
    | j + 6, hj => simp at hj
  have HD : Hid (∀ w', Below W1.heap.size W1 w' → w'.cell? ⟨W.heap.size, 8, none⟩ = some (.slice s.ia s.il s.ic) ∧ w'.cell? ⟨W.heap.size, 10, none⟩ = some (.slice s.va s.vn s.vc) ∧ w'.cell? ⟨W.heap.size, 11, none⟩ = some (.slice s.ca s.cn s.cc) ∧ W.heap.size < w'.heap.size) := fun w' hb => ⟨(hx1.below hb hx1.lt).cell 8 rfl, (hx1.below hb hx1.lt).cell 10 rfl, (hx1.below hb hx1.lt).cell 11 rfl, (hx1.below hb hx1.lt).lt⟩
  have HN : Hid (∀ w', Below W.heap.size W w' → StrRow w' s.na s.nn s.nc 1) := fun w' hb => hn.below hb
  have HP : Hid (∀ w', Below W.heap.size W w' → StrRow w' s.ca s.cn s.cc 3) := fun w' hb => hp.below hb
  have HB1 := hide hb1
  have HX1 := hide hx1
  have HKN : Hid (∀ w, Calls Tryz.prog 10 #[] w fun e w' => e = .returned (.bool true) ∧ Below w.heap.size w w') := known8_any
  clear hn hp hb1 hx1
  unfold Sp.cells at HX1 ⊢
  go_enter Tryz.func3, Tryz.ntmps3
  go_wp2_with (first
    | (refine wpList_load_row rfl 29 _ rfl W.heap.size rfl 29 _ (0, 0) _ (unhide HX1) Tryz.underlying29 rfl info29 ?_)
    | (go_at_call 9
       have hb2 := (Below.refl _ W1).alloc (Nat.le_refl _) (.cells #[.int .i64 s.kind, .int .i64 s.tk, .int .i64 s.tn, .string s.tt, .slice s.pa s.pn s.pc, .slice s.na s.nn s.nc, .slice s.ma s.mn s.mc, .int .i64 s.id, .slice s.ia s.il s.ic, .int .i64 s.node, .slice s.va s.vn s.vc, .slice s.ca s.cn s.cc] 29)
       have hbb := (unhide HB1).trans (hb2.mono (unhide HB1).size)
       refine (heavy_any s W1.heap.size _ (show Bx _ _ s.cells 29 from al_at W1 _) (unhide HN _ hbb) (unhide HP _ hbb)).mono ?_
       rintro e w2 ⟨⟨r, rfl⟩, h2⟩
       have HC2 := hide (hb2.trans (h2.mono hb2.size))
       have HB2 := hide ((unhide HB1).trans ((unhide HC2).mono (unhide HB1).size))
       obtain ⟨x8, x10, x11, xl⟩ := unhide HD w2 (unhide HC2)
       clear hb2 hbb h2)
    | (refine wpList_load_mid rfl 26 _ rfl W.heap.size 1 rfl [.int .i64 s.tk, .int .i64 s.tn, .string s.tt, .slice s.pa s.pn s.pc, .slice s.na s.nn s.nc, .slice s.ma s.mn s.mc] _ (unhide HR w2 (unhide HC2)) Tryz.underlying26 rfl info26 ?_)
    | (go_at_call 11
       refine (find_nil w2 s.tk s.tn s.tt s.pa s.na s.ma s.pn s.pc s.nn s.nc s.mn s.mc).mono ?_
       rintro e w3 ⟨rfl, hb3⟩
       have HC3 := hide ((unhide HC2).trans (hb3.mono (unhide HC2).size))
       have HB3 := hide ((unhide HB2).trans (hb3.mono (unhide HB2).size))
       obtain ⟨y8, y10, y11, yl⟩ := unhide HD w3 (unhide HC3)
       clear hb3 x8 x10 x11 xl)
    | (go_at_call 12; refine (union_nil w3 _ _ _).mono ?_; rintro e w4 ⟨rfl, rfl⟩)
    | (go_at_call 13; refine (subst_nil _ _ _ _ _ _ _ _).mono ?_; rintro e w5 ⟨rfl, rfl⟩)
    | (go_at_call_of 14 (Value.pointer none); refine (widen_nil _ _).mono ?_; rintro e w6 ⟨rfl, rfl⟩)
    | (go_at_call_of 15 (Value.pointer none)
       refine (at_nil _ _).mono ?_
       unfold tyZ
       rintro e w7 ⟨rfl, hb7⟩
       have HC7 := hide ((unhide HC3).trans (hb7.mono (unhide HC3).size))
       have HB7 := hide ((unhide HB3).trans (hb7.mono (unhide HB3).size))
       obtain ⟨V7, hV7⟩ : ∃ V7, (w7.alloc (.cells #[.int .i64 0, .int .i64 0, .string ⟨#[]⟩, .slice none 0 0, .slice none 0 0, .slice none 0 0] 26)).setRow w7.heap.size #[.int .i64 0, .int .i64 0, .string ⟨#[]⟩, .slice none 0 0, .slice none 0 0, .slice none 0 0] = V7 := ⟨_, rfl⟩
       have hb8 : Below w7.heap.size w7 V7 := (by rw [← hV7]; exact below_row ((Below.refl _ w7).alloc (Nat.le_refl _) _) (Nat.le_refl _) _)
       have hx8 : Bx V7 w7.heap.size #[.int .i64 0, .int .i64 0, .string ⟨#[]⟩, .slice none 0 0, .slice none 0 0, .slice none 0 0] 26 := (by rw [← hV7]; exact setRow_heap _ _ _ _ _ _ (al_at w7 _))
       have HC8 := hide ((unhide HC7).trans (hb8.mono (unhide HC7).size))
       have HB8 := hide ((unhide HB7).trans (hb8.mono (unhide HB7).size))
       obtain ⟨u8, u10, u11, ul⟩ := unhide HD V7 (unhide HC8)
       have t0 := hx8.cell 0 rfl
       have tl := hx8.lt
       obtain ⟨V8, hV8⟩ : ∃ V8, V7.alloc (.cells #[.slice none 0 0, .map none, .map none] 51) = V8 := ⟨_, rfl⟩
       have hb9 : Below V7.heap.size V7 V8 := (by rw [← hV8]; exact (Below.refl _ V7).alloc (Nat.le_refl _) _)
       have HX9 : Hid (Bx V8 V7.heap.size #[.slice none 0 0, .map none, .map none] 51) := (by rw [← hV8]; exact al_at V7 _)
       have HB9 := hide ((unhide HB8).trans (hb9.mono (unhide HB8).size))
       clear hb7 hb8 hb9 hx8 y8 y10 y11 yl)
    | (refine wpList_store_row rfl 26 _ _ rfl w7.heap.size _ rfl rfl 26 _ (al_at w7 _) info26 rfl (one6 _ _ _ _ _ _ _ _ _ _ _ _) ?_)
    | (go_at_call_of 16 (Value.pointer none); refine (pieces_nil _ _).mono ?_; rintro e w8 ⟨rfl, rfl⟩)
    | (go_at_call_of 17 (Value.pointer none); refine (define_nil _ _ _ _ _ _ _ _).mono ?_; rintro e w9 ⟨rfl, rfl⟩)
    | (go_at_call_of 18 (Value.pointer none); refine (len_nil _).mono ?_; rintro e w9 ⟨rfl, rfl⟩)
    | (go_at_call_of 19 (Value.pointer none); refine (text_nil _ _).mono ?_; rintro e w9 ⟨rfl, rfl⟩)
    | (go_at_call 15
       refine (at_no V8 _ none 0 0 ((unhide HX9).cell 0 rfl) id (by omega)).mono ?_
       unfold tyZ
       rintro e wA ⟨rfl, hbA⟩
       have HXA := hide ((unhide HX9).below hbA (unhide HX9).lt)
       have HBA := hide ((unhide HB9).trans (hbA.mono (unhide HB9).size))
       clear hbA)
    | (go_at_call 14
       refine (widen_no wA _ none 0 0 ((unhide HXA).cell 0 rfl) id (by omega)).mono ?_
       rintro e wB ⟨rfl, rfl⟩)
    | (go_at_call 16
       refine (pieces_no _ _ none 0 0 ((unhide HXA).cell 0 rfl) id (by omega)).mono ?_
       rintro e wB ⟨rfl, rfl⟩)
    | (go_at_call 18
       refine (len_any _ _ none 0 0 ((unhide HXA).cell 0 rfl)).mono ?_
       rintro e wB ⟨rfl, rfl⟩)
    | (go_at_call 19
       refine (text_no _ _ none 0 0 ((unhide HXA).cell 0 rfl) id (by omega)).mono ?_
       rintro e wB ⟨rfl, rfl⟩)
    | (go_at_call 10
       refine (unhide HKN _).mono ?_
       rintro e wk ⟨rfl, hbk⟩))
  · go_ret
    exact ⟨rfl, (unhide HB2).trans (hbk.mono (unhide HB2).size)⟩
  · go_ret
    exact ⟨rfl, (unhide HBA).trans (hbk.mono (unhide HBA).size)⟩
end Go.Proofs.YtapnnbgcdijfpaaGreatDoor

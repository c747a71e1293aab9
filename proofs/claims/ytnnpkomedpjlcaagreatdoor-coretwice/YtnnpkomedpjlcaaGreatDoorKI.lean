/- core.alone of a Param. -/
import Derived.LoopN
import Derived.Deep.RegionHeld3
import Derived.BigQuiet
import Derived.Test.YtnnpkomedpjlcaaGreatDoorTLc
import Derived.Test.YtnnpkomedpjlcaaGreatDoorKE
import Derived.Test.YtnnpkomedpjlcaaGreatDoorKZ
namespace Go.Proofs.YtnnpkomedpjlcaaGreatDoor
set_option linter.unusedSimpArgs false
set_option linter.unusedVariables false
open Go.RowKit Go.Shelf

set_option maxRecDepth 100000 in
set_option maxHeartbeats 4000000 in
theorem alone_mark (W : World) (tx : ByteArray) (nm at' : Int) (a : Option Addr) (n c : Nat) (hs : tx.size ≤ 281474976710656) (hb : (bits BinOp.and IntKind.i64 nm 6 != 0) = true) :
    Calls Tryz.prog 42 #[.agg #[.int .i64 66, .string tx, .int .i64 nm, .slice a n c, .int .i64 at']] W fun e w' => e = .returned (.agg #[.int .i64 66, .string tx, .int .i64 2, .slice none 0 0, .int .i64 at']) ∧ Below W.heap.size W w' := by
  obtain ⟨W1, hW1⟩ : ∃ W1, (W.alloc (.cells #[.int .i64 66, .string tx, .int .i64 nm, .slice a n c, .int .i64 at'] 41)).alloc (.cells #[.int .i64 0, .string ⟨#[]⟩, .int .i64 0, .slice none 0 0, .int .i64 0] 41) = W1 := ⟨_, rfl⟩
  have hB1 : Below W.heap.size W W1 := by rw [← hW1]; exact ((Below.refl _ W).alloc (Nat.le_refl _) _).alloc (by simp) _
  have hz1 : W1.heap.size = W.heap.size + 1 + 1 := by rw [← hW1]; simp
  have hx1 : W1.heap[W.heap.size]? = some (.cells #[.int .i64 66, .string tx, .int .i64 nm, .slice a n c, .int .i64 at'] 41) := by rw [← hW1]; exact rat_a2 W _ _
  have hx2 : W1.heap[W.heap.size + 1]? = some (.cells #[.int .i64 0, .string ⟨#[]⟩, .int .i64 0, .slice none 0 0, .int .i64 0] 41) := by
    rw [← hW1]
    have := World.alloc_heap_new (W.alloc (.cells #[.int .i64 66, .string tx, .int .i64 nm, .slice a n c, .int .i64 at'] 41)) (.cells #[.int .i64 0, .string ⟨#[]⟩, .int .i64 0, .slice none 0 0, .int .i64 0] 41)
    rw [World.size_alloc] at this
    exact this
  have hHS : ∀ w', Below W1.heap.size W1 w' → w'.cell? ⟨W.heap.size, 0, none⟩ = some (.int .i64 66) ∧ w'.cell? ⟨W.heap.size, 1, none⟩ = some (.string tx) ∧ w'.cell? ⟨W.heap.size, 2, none⟩ = some (.int .i64 nm) ∧ w'.cell? ⟨W.heap.size, 4, none⟩ = some (.int .i64 at') := fun w' h => by
    obtain ⟨r0, r1, r2, r3, r4⟩ := rcells5 ((h.block _ (by omega)).trans hx1)
    exact ⟨r0, r1, r2, r4⟩
  have HSS := hide hHS
  have HW1 := hide hW1
  have HX2 := hide hx2
  have HB1 := hide hB1
  have HZ1 := hide hz1
  have t1 : W.heap.size < W1.heap.size := by omega
  have t2 : W.heap.size + 1 < W1.heap.size := by omega
  obtain ⟨c0, c1, c2, c4⟩ := hHS W1 (Below.refl _ _)
  clear hW1 hx1 hx2 hHS hB1 hz1
  go_enter Tryz.func42, Tryz.ntmps42
  go_wp2
  rw [unhide HW1]
  go_region_held3 (fun w' => w'.cell? ⟨W.heap.size, 0, none⟩ = some (.int .i64 66) ∧ w'.cell? ⟨W.heap.size, 1, none⟩ = some (.string tx) ∧ w'.cell? ⟨W.heap.size, 2, none⟩ = some (.int .i64 nm) ∧ w'.cell? ⟨W.heap.size, 4, none⟩ = some (.int .i64 at'))
    (with_reducible first
      | exact unhide HSS _ (Below.refl _ _)
      | exact unhide HSS _ (Below.refl _ _).drew
      | exact unhide HSS _ ((Below.refl _ W1).alloc (Nat.le_refl _) _).drew
      | exact unhide HSS _ ((Below.refl _ W1).drew.alloc (Nat.le_refl _) _)
      | exact unhide HSS _ hb6
      | exact unhide HSS _ (hb6.alloc hb6.size _)
      | exact unhide HSS _ (below5 hb6 _ _ _ _ _ (Nat.le_refl _))
      | exact unhide HSS _ (below5 (hb6.alloc hb6.size _) _ _ _ _ _ hb6.size)
      | assumption)
    ((go_at_call 58; refine (clone43 tx _ (by omega)).mono ?_; rintro e w6 ⟨rfl, hB6⟩; first
      | (have hb6 : Below W1.heap.size W1 w6 := (Below.refl _ W1).drew.trans hB6; clear hB6)
      | (have hb6 : Below W1.heap.size W1 w6 := ((Below.refl _ W1).alloc (Nat.le_refl _) _).drew.trans (hB6.mono (by simp)); have hz6 : w6.heap[W1.heap.size]? = some (.cells #[.int .i64 0, .string ⟨#[]⟩, .int .i64 0, .slice none 0 0, .int .i64 0] 41) := (hB6.block _ (by simp)).trans (World.alloc_heap_new W1 _); have hz5 := hz6; obtain ⟨v0, v1, v2, v3, v4⟩ := rcells5 hz6; have y0 := rfrozen_at hz5 0; have y1 := rfrozen_at hz5 1; have y2 := rfrozen_at hz5 2; have y3 := rfrozen_at hz5 3; have y4 := rfrozen_at hz5 4; have ylt : W1.heap.size < w6.heap.size := (Array.getElem?_eq_some_iff.1 hz5).1; have HZ6 := hide hz5; clear hB6 hz6 hz5)))
  · obtain ⟨w7, hw7⟩ : ∃ w7, w6.alloc (.cells #[.int .i64 66, .string tx, .int .i64 nm, .slice none 0 0, .int .i64 at'] 41) = w7 := ⟨_, rfl⟩
    have hl7 : w7.heap[w6.heap.size]? = some (.cells #[.int .i64 66, .string tx, .int .i64 nm, .slice none 0 0, .int .i64 at'] 41) := by rw [← hw7]; exact World.alloc_heap_new w6 _
    have hb7 : Below W1.heap.size W1 w7 := by rw [← hw7]; exact hb6.alloc hb6.size _
    rw [hw7]
    have hge := hb6.size
    clear hw7 hb6
    generalize w6.heap.size = L at hl7 hge ⊢
    have hN1 : W.heap.size + 1 < w7.heap.size := by have := hb7.size; omega
    have hN0 : W.heap.size < w7.heap.size := by omega
    obtain ⟨b0, b1, b2, b4⟩ := unhide HSS w7 hb7
    obtain ⟨l0, l1, l2, l3, l4⟩ := rcells5 hl7
    have hL : L < w7.heap.size := (Array.getElem?_eq_some_iff.1 hl7).1
    have hx7 := (hb7.block (W.heap.size + 1) t2).trans (unhide HX2)
    obtain ⟨z0, z1, z2, z3, z4⟩ := rcells5 hx7
    have y0 := rfrozen_at hx7 0
    have y1 := rfrozen_at hx7 1
    have y2 := rfrozen_at hx7 2
    have y3 := rfrozen_at hx7 3
    have y4 := rfrozen_at hx7 4
    have HX7 := hide hx7
    have lf2 := rfrozen_at hl7 2
    have hLN : L ≠ W.heap.size + 1 := (by omega)
    have hLN0 : L ≠ W.heap.size := (by omega)
    have HGE := hide hge
    have HB7 := hide hb7
    have HT := hide (coreType_any w7 66)
    clear hb7 hl7 hx7 c0 c1 c2 c4
    go_wp2_with (go_at_call 35; refine (unhide HT).mono ?_; rintro e w8 ⟨rfl, hw8⟩; rw [hw8]; clear hw8)
    have h5 := set5 (show (w7.setCell ⟨L, 2, none⟩ (.int .i64 2)).heap[W.heap.size + 1]? = some (.cells #[.int .i64 0, .string ⟨#[]⟩, .int .i64 0, .slice none 0 0, .int .i64 0] 41) from (Below.heap_setCell _ _ _ _ (Ne.symm hLN)).trans (unhide HX7)) (.int .i64 66) (.string tx) (.int .i64 2) (.slice none 0 0) (.int .i64 at')
    have hB8 : Below W.heap.size W ((((((w7.setCell ⟨L, 2, none⟩ (.int .i64 2)).setCell ⟨W.heap.size + 1, 0, none⟩ (.int .i64 66)).setCell ⟨W.heap.size + 1, 1, none⟩ (.string tx)).setCell ⟨W.heap.size + 1, 2, none⟩ (.int .i64 2)).setCell ⟨W.heap.size + 1, 3, none⟩ (.slice none 0 0)).setCell ⟨W.heap.size + 1, 4, none⟩ (.int .i64 at')) := below5 ((unhide HB1).trans (((unhide HB7).setCell (p := ⟨L, 2, none⟩) (unhide HGE) _).mono (by omega))) _ _ _ _ _ (by omega)
    obtain ⟨W9, hW9⟩ : ∃ W9, (((((w7.setCell ⟨L, 2, none⟩ (.int .i64 2)).setCell ⟨W.heap.size + 1, 0, none⟩ (.int .i64 66)).setCell ⟨W.heap.size + 1, 1, none⟩ (.string tx)).setCell ⟨W.heap.size + 1, 2, none⟩ (.int .i64 2)).setCell ⟨W.heap.size + 1, 3, none⟩ (.slice none 0 0)).setCell ⟨W.heap.size + 1, 4, none⟩ (.int .i64 at') = W9 := ⟨_, rfl⟩
    rw [hW9] at h5 hB8 ⊢
    obtain ⟨u0, u1, u2, u3, u4⟩ := rcells5 h5
    exact bodyPost_ret (v := .agg #[.int .i64 66, .string tx, .int .i64 2, .slice none 0 0, .int .i64 at']) (by simp [results, Tryz.results42, go_sem, u0, u1, u2, u3, u4]) rfl ⟨rfl, hB8⟩
  · have hl7 := set5 (unhide HZ6) (.int .i64 66) (.string tx) (.int .i64 nm) (.slice none 0 0) (.int .i64 at')
    have hb7 := below5 (R := W1.heap.size) hb6 (.int .i64 66) (.string tx) (.int .i64 nm) (.slice none 0 0) (.int .i64 at') (Nat.le_refl _)
    obtain ⟨w7, hw7⟩ : ∃ w7, ((((w6.setCell ⟨W1.heap.size, 0, none⟩ (.int .i64 66)).setCell ⟨W1.heap.size, 1, none⟩ (.string tx)).setCell ⟨W1.heap.size, 2, none⟩ (.int .i64 nm)).setCell ⟨W1.heap.size, 3, none⟩ (.slice none 0 0)).setCell ⟨W1.heap.size, 4, none⟩ (.int .i64 at') = w7 := ⟨_, rfl⟩
    rw [hw7] at hl7 hb7 ⊢
    clear hw7 hb6 v0 v1 v2 v3 v4 y0 y1 y2 y3 y4 ylt
    obtain ⟨L, hLe⟩ : ∃ L, W1.heap.size = L := ⟨_, rfl⟩
    rw [hLe] at hl7
    have HLE := hide hLe
    have hge : W1.heap.size ≤ L := Nat.le_of_eq hLe
    simp only [hLe]
    clear hLe
    have hN1 : W.heap.size + 1 < w7.heap.size := by have := hb7.size; omega
    have hN0 : W.heap.size < w7.heap.size := by omega
    obtain ⟨b0, b1, b2, b4⟩ := unhide HSS w7 hb7
    obtain ⟨l0, l1, l2, l3, l4⟩ := rcells5 hl7
    have hL : L < w7.heap.size := (Array.getElem?_eq_some_iff.1 hl7).1
    have hx7 := (hb7.block (W.heap.size + 1) t2).trans (unhide HX2)
    obtain ⟨z0, z1, z2, z3, z4⟩ := rcells5 hx7
    have y0 := rfrozen_at hx7 0
    have y1 := rfrozen_at hx7 1
    have y2 := rfrozen_at hx7 2
    have y3 := rfrozen_at hx7 3
    have y4 := rfrozen_at hx7 4
    have HX7 := hide hx7
    have lf2 := rfrozen_at hl7 2
    have hLN : L ≠ W.heap.size + 1 := (by omega)
    have hLN0 : L ≠ W.heap.size := (by omega)
    have HGE := hide hge
    have HB7 := hide hb7
    have HT := hide (coreType_any w7 66)
    clear hb7 hl7 hx7 c0 c1 c2 c4
    go_wp2_with (go_at_call 35; refine (unhide HT).mono ?_; rintro e w8 ⟨rfl, hw8⟩; rw [hw8]; clear hw8)
    have h5 := set5 (show (w7.setCell ⟨L, 2, none⟩ (.int .i64 2)).heap[W.heap.size + 1]? = some (.cells #[.int .i64 0, .string ⟨#[]⟩, .int .i64 0, .slice none 0 0, .int .i64 0] 41) from (Below.heap_setCell _ _ _ _ (Ne.symm hLN)).trans (unhide HX7)) (.int .i64 66) (.string tx) (.int .i64 2) (.slice none 0 0) (.int .i64 at')
    have hB8 : Below W.heap.size W ((((((w7.setCell ⟨L, 2, none⟩ (.int .i64 2)).setCell ⟨W.heap.size + 1, 0, none⟩ (.int .i64 66)).setCell ⟨W.heap.size + 1, 1, none⟩ (.string tx)).setCell ⟨W.heap.size + 1, 2, none⟩ (.int .i64 2)).setCell ⟨W.heap.size + 1, 3, none⟩ (.slice none 0 0)).setCell ⟨W.heap.size + 1, 4, none⟩ (.int .i64 at')) := below5 ((unhide HB1).trans (((unhide HB7).setCell (p := ⟨L, 2, none⟩) (unhide HGE) _).mono (by omega))) _ _ _ _ _ (by omega)
    obtain ⟨W9, hW9⟩ : ∃ W9, (((((w7.setCell ⟨L, 2, none⟩ (.int .i64 2)).setCell ⟨W.heap.size + 1, 0, none⟩ (.int .i64 66)).setCell ⟨W.heap.size + 1, 1, none⟩ (.string tx)).setCell ⟨W.heap.size + 1, 2, none⟩ (.int .i64 2)).setCell ⟨W.heap.size + 1, 3, none⟩ (.slice none 0 0)).setCell ⟨W.heap.size + 1, 4, none⟩ (.int .i64 at') = W9 := ⟨_, rfl⟩
    rw [hW9] at h5 hB8 ⊢
    obtain ⟨u0, u1, u2, u3, u4⟩ := rcells5 h5
    exact bodyPost_ret (v := .agg #[.int .i64 66, .string tx, .int .i64 2, .slice none 0 0, .int .i64 at']) (by simp [results, Tryz.results42, go_sem, u0, u1, u2, u3, u4]) rfl ⟨rfl, hB8⟩
set_option maxRecDepth 100000 in
set_option maxHeartbeats 4000000 in
theorem alone_bare (W : World) (tx : ByteArray) (nm at' : Int) (a : Option Addr) (n c : Nat) (hs : tx.size ≤ 281474976710656) (hb : (bits BinOp.and IntKind.i64 nm 6 != 0) = false) :
    Calls Tryz.prog 42 #[.agg #[.int .i64 66, .string tx, .int .i64 nm, .slice a n c, .int .i64 at']] W fun e w' => e = .returned (.agg #[.int .i64 66, .string tx, .int .i64 0, .slice none 0 0, .int .i64 at']) ∧ Below W.heap.size W w' := by
  obtain ⟨W1, hW1⟩ : ∃ W1, (W.alloc (.cells #[.int .i64 66, .string tx, .int .i64 nm, .slice a n c, .int .i64 at'] 41)).alloc (.cells #[.int .i64 0, .string ⟨#[]⟩, .int .i64 0, .slice none 0 0, .int .i64 0] 41) = W1 := ⟨_, rfl⟩
  have hB1 : Below W.heap.size W W1 := by rw [← hW1]; exact ((Below.refl _ W).alloc (Nat.le_refl _) _).alloc (by simp) _
  have hz1 : W1.heap.size = W.heap.size + 1 + 1 := by rw [← hW1]; simp
  have hx1 : W1.heap[W.heap.size]? = some (.cells #[.int .i64 66, .string tx, .int .i64 nm, .slice a n c, .int .i64 at'] 41) := by rw [← hW1]; exact rat_a2 W _ _
  have hx2 : W1.heap[W.heap.size + 1]? = some (.cells #[.int .i64 0, .string ⟨#[]⟩, .int .i64 0, .slice none 0 0, .int .i64 0] 41) := by
    rw [← hW1]
    have := World.alloc_heap_new (W.alloc (.cells #[.int .i64 66, .string tx, .int .i64 nm, .slice a n c, .int .i64 at'] 41)) (.cells #[.int .i64 0, .string ⟨#[]⟩, .int .i64 0, .slice none 0 0, .int .i64 0] 41)
    rw [World.size_alloc] at this
    exact this
  have hHS : ∀ w', Below W1.heap.size W1 w' → w'.cell? ⟨W.heap.size, 0, none⟩ = some (.int .i64 66) ∧ w'.cell? ⟨W.heap.size, 1, none⟩ = some (.string tx) ∧ w'.cell? ⟨W.heap.size, 2, none⟩ = some (.int .i64 nm) ∧ w'.cell? ⟨W.heap.size, 4, none⟩ = some (.int .i64 at') := fun w' h => by
    obtain ⟨r0, r1, r2, r3, r4⟩ := rcells5 ((h.block _ (by omega)).trans hx1)
    exact ⟨r0, r1, r2, r4⟩
  have HSS := hide hHS
  have HW1 := hide hW1
  have HX2 := hide hx2
  have HB1 := hide hB1
  have HZ1 := hide hz1
  have t1 : W.heap.size < W1.heap.size := by omega
  have t2 : W.heap.size + 1 < W1.heap.size := by omega
  obtain ⟨c0, c1, c2, c4⟩ := hHS W1 (Below.refl _ _)
  clear hW1 hx1 hx2 hHS hB1 hz1
  go_enter Tryz.func42, Tryz.ntmps42
  go_wp2
  rw [unhide HW1]
  go_region_held3 (fun w' => w'.cell? ⟨W.heap.size, 0, none⟩ = some (.int .i64 66) ∧ w'.cell? ⟨W.heap.size, 1, none⟩ = some (.string tx) ∧ w'.cell? ⟨W.heap.size, 2, none⟩ = some (.int .i64 nm) ∧ w'.cell? ⟨W.heap.size, 4, none⟩ = some (.int .i64 at'))
    (with_reducible first
      | exact unhide HSS _ (Below.refl _ _)
      | exact unhide HSS _ (Below.refl _ _).drew
      | exact unhide HSS _ ((Below.refl _ W1).alloc (Nat.le_refl _) _).drew
      | exact unhide HSS _ ((Below.refl _ W1).drew.alloc (Nat.le_refl _) _)
      | exact unhide HSS _ hb6
      | exact unhide HSS _ (hb6.alloc hb6.size _)
      | exact unhide HSS _ (below5 hb6 _ _ _ _ _ (Nat.le_refl _))
      | exact unhide HSS _ (below5 (hb6.alloc hb6.size _) _ _ _ _ _ hb6.size)
      | assumption)
    ((go_at_call 58; refine (clone43 tx _ (by omega)).mono ?_; rintro e w6 ⟨rfl, hB6⟩; first
      | (have hb6 : Below W1.heap.size W1 w6 := (Below.refl _ W1).drew.trans hB6; clear hB6)
      | (have hb6 : Below W1.heap.size W1 w6 := ((Below.refl _ W1).alloc (Nat.le_refl _) _).drew.trans (hB6.mono (by simp)); have hz6 : w6.heap[W1.heap.size]? = some (.cells #[.int .i64 0, .string ⟨#[]⟩, .int .i64 0, .slice none 0 0, .int .i64 0] 41) := (hB6.block _ (by simp)).trans (World.alloc_heap_new W1 _); have hz5 := hz6; obtain ⟨v0, v1, v2, v3, v4⟩ := rcells5 hz6; have y0 := rfrozen_at hz5 0; have y1 := rfrozen_at hz5 1; have y2 := rfrozen_at hz5 2; have y3 := rfrozen_at hz5 3; have y4 := rfrozen_at hz5 4; have ylt : W1.heap.size < w6.heap.size := (Array.getElem?_eq_some_iff.1 hz5).1; have HZ6 := hide hz5; clear hB6 hz6 hz5)))
  · obtain ⟨w7, hw7⟩ : ∃ w7, w6.alloc (.cells #[.int .i64 66, .string tx, .int .i64 nm, .slice none 0 0, .int .i64 at'] 41) = w7 := ⟨_, rfl⟩
    have hl7 : w7.heap[w6.heap.size]? = some (.cells #[.int .i64 66, .string tx, .int .i64 nm, .slice none 0 0, .int .i64 at'] 41) := by rw [← hw7]; exact World.alloc_heap_new w6 _
    have hb7 : Below W1.heap.size W1 w7 := by rw [← hw7]; exact hb6.alloc hb6.size _
    rw [hw7]
    have hge := hb6.size
    clear hw7 hb6
    generalize w6.heap.size = L at hl7 hge ⊢
    have hN1 : W.heap.size + 1 < w7.heap.size := by have := hb7.size; omega
    have hN0 : W.heap.size < w7.heap.size := by omega
    obtain ⟨b0, b1, b2, b4⟩ := unhide HSS w7 hb7
    obtain ⟨l0, l1, l2, l3, l4⟩ := rcells5 hl7
    have hL : L < w7.heap.size := (Array.getElem?_eq_some_iff.1 hl7).1
    have hx7 := (hb7.block (W.heap.size + 1) t2).trans (unhide HX2)
    obtain ⟨z0, z1, z2, z3, z4⟩ := rcells5 hx7
    have y0 := rfrozen_at hx7 0
    have y1 := rfrozen_at hx7 1
    have y2 := rfrozen_at hx7 2
    have y3 := rfrozen_at hx7 3
    have y4 := rfrozen_at hx7 4
    have HX7 := hide hx7
    have lf2 := rfrozen_at hl7 2
    have hLN : L ≠ W.heap.size + 1 := (by omega)
    have hLN0 : L ≠ W.heap.size := (by omega)
    have HGE := hide hge
    have HB7 := hide hb7
    have HT := hide (coreType_any w7 66)
    clear hb7 hl7 hx7 c0 c1 c2 c4
    go_wp2_with (go_at_call 35; refine (unhide HT).mono ?_; rintro e w8 ⟨rfl, hw8⟩; rw [hw8]; clear hw8)
    have h5 := set5 (show (w7.setCell ⟨L, 2, none⟩ (.int .i64 0)).heap[W.heap.size + 1]? = some (.cells #[.int .i64 0, .string ⟨#[]⟩, .int .i64 0, .slice none 0 0, .int .i64 0] 41) from (Below.heap_setCell _ _ _ _ (Ne.symm hLN)).trans (unhide HX7)) (.int .i64 66) (.string tx) (.int .i64 0) (.slice none 0 0) (.int .i64 at')
    have hB8 : Below W.heap.size W ((((((w7.setCell ⟨L, 2, none⟩ (.int .i64 0)).setCell ⟨W.heap.size + 1, 0, none⟩ (.int .i64 66)).setCell ⟨W.heap.size + 1, 1, none⟩ (.string tx)).setCell ⟨W.heap.size + 1, 2, none⟩ (.int .i64 0)).setCell ⟨W.heap.size + 1, 3, none⟩ (.slice none 0 0)).setCell ⟨W.heap.size + 1, 4, none⟩ (.int .i64 at')) := below5 ((unhide HB1).trans (((unhide HB7).setCell (p := ⟨L, 2, none⟩) (unhide HGE) _).mono (by omega))) _ _ _ _ _ (by omega)
    obtain ⟨W9, hW9⟩ : ∃ W9, (((((w7.setCell ⟨L, 2, none⟩ (.int .i64 0)).setCell ⟨W.heap.size + 1, 0, none⟩ (.int .i64 66)).setCell ⟨W.heap.size + 1, 1, none⟩ (.string tx)).setCell ⟨W.heap.size + 1, 2, none⟩ (.int .i64 0)).setCell ⟨W.heap.size + 1, 3, none⟩ (.slice none 0 0)).setCell ⟨W.heap.size + 1, 4, none⟩ (.int .i64 at') = W9 := ⟨_, rfl⟩
    rw [hW9] at h5 hB8 ⊢
    obtain ⟨u0, u1, u2, u3, u4⟩ := rcells5 h5
    exact bodyPost_ret (v := .agg #[.int .i64 66, .string tx, .int .i64 0, .slice none 0 0, .int .i64 at']) (by simp [results, Tryz.results42, go_sem, u0, u1, u2, u3, u4]) rfl ⟨rfl, hB8⟩
  · have hl7 := set5 (unhide HZ6) (.int .i64 66) (.string tx) (.int .i64 nm) (.slice none 0 0) (.int .i64 at')
    have hb7 := below5 (R := W1.heap.size) hb6 (.int .i64 66) (.string tx) (.int .i64 nm) (.slice none 0 0) (.int .i64 at') (Nat.le_refl _)
    obtain ⟨w7, hw7⟩ : ∃ w7, ((((w6.setCell ⟨W1.heap.size, 0, none⟩ (.int .i64 66)).setCell ⟨W1.heap.size, 1, none⟩ (.string tx)).setCell ⟨W1.heap.size, 2, none⟩ (.int .i64 nm)).setCell ⟨W1.heap.size, 3, none⟩ (.slice none 0 0)).setCell ⟨W1.heap.size, 4, none⟩ (.int .i64 at') = w7 := ⟨_, rfl⟩
    rw [hw7] at hl7 hb7 ⊢
    clear hw7 hb6 v0 v1 v2 v3 v4 y0 y1 y2 y3 y4 ylt
    obtain ⟨L, hLe⟩ : ∃ L, W1.heap.size = L := ⟨_, rfl⟩
    rw [hLe] at hl7
    have HLE := hide hLe
    have hge : W1.heap.size ≤ L := Nat.le_of_eq hLe
    simp only [hLe]
    clear hLe
    have hN1 : W.heap.size + 1 < w7.heap.size := by have := hb7.size; omega
    have hN0 : W.heap.size < w7.heap.size := by omega
    obtain ⟨b0, b1, b2, b4⟩ := unhide HSS w7 hb7
    obtain ⟨l0, l1, l2, l3, l4⟩ := rcells5 hl7
    have hL : L < w7.heap.size := (Array.getElem?_eq_some_iff.1 hl7).1
    have hx7 := (hb7.block (W.heap.size + 1) t2).trans (unhide HX2)
    obtain ⟨z0, z1, z2, z3, z4⟩ := rcells5 hx7
    have y0 := rfrozen_at hx7 0
    have y1 := rfrozen_at hx7 1
    have y2 := rfrozen_at hx7 2
    have y3 := rfrozen_at hx7 3
    have y4 := rfrozen_at hx7 4
    have HX7 := hide hx7
    have lf2 := rfrozen_at hl7 2
    have hLN : L ≠ W.heap.size + 1 := (by omega)
    have hLN0 : L ≠ W.heap.size := (by omega)
    have HGE := hide hge
    have HB7 := hide hb7
    have HT := hide (coreType_any w7 66)
    clear hb7 hl7 hx7 c0 c1 c2 c4
    go_wp2_with (go_at_call 35; refine (unhide HT).mono ?_; rintro e w8 ⟨rfl, hw8⟩; rw [hw8]; clear hw8)
    have h5 := set5 (show (w7.setCell ⟨L, 2, none⟩ (.int .i64 0)).heap[W.heap.size + 1]? = some (.cells #[.int .i64 0, .string ⟨#[]⟩, .int .i64 0, .slice none 0 0, .int .i64 0] 41) from (Below.heap_setCell _ _ _ _ (Ne.symm hLN)).trans (unhide HX7)) (.int .i64 66) (.string tx) (.int .i64 0) (.slice none 0 0) (.int .i64 at')
    have hB8 : Below W.heap.size W ((((((w7.setCell ⟨L, 2, none⟩ (.int .i64 0)).setCell ⟨W.heap.size + 1, 0, none⟩ (.int .i64 66)).setCell ⟨W.heap.size + 1, 1, none⟩ (.string tx)).setCell ⟨W.heap.size + 1, 2, none⟩ (.int .i64 0)).setCell ⟨W.heap.size + 1, 3, none⟩ (.slice none 0 0)).setCell ⟨W.heap.size + 1, 4, none⟩ (.int .i64 at')) := below5 ((unhide HB1).trans (((unhide HB7).setCell (p := ⟨L, 2, none⟩) (unhide HGE) _).mono (by omega))) _ _ _ _ _ (by omega)
    obtain ⟨W9, hW9⟩ : ∃ W9, (((((w7.setCell ⟨L, 2, none⟩ (.int .i64 0)).setCell ⟨W.heap.size + 1, 0, none⟩ (.int .i64 66)).setCell ⟨W.heap.size + 1, 1, none⟩ (.string tx)).setCell ⟨W.heap.size + 1, 2, none⟩ (.int .i64 0)).setCell ⟨W.heap.size + 1, 3, none⟩ (.slice none 0 0)).setCell ⟨W.heap.size + 1, 4, none⟩ (.int .i64 at') = W9 := ⟨_, rfl⟩
    rw [hW9] at h5 hB8 ⊢
    obtain ⟨u0, u1, u2, u3, u4⟩ := rcells5 h5
    exact bodyPost_ret (v := .agg #[.int .i64 66, .string tx, .int .i64 0, .slice none 0 0, .int .i64 at']) (by simp [results, Tryz.results42, go_sem, u0, u1, u2, u3, u4]) rfl ⟨rfl, hB8⟩
end Go.Proofs.YtnnpkomedpjlcaaGreatDoor

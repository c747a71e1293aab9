/- Merged: KF, KG, KH, KI, KJ, KK, KL2, KN2. -/
import Derived.BigQuiet
import Derived.Deep.RegionHeld3
import Derived.Laws.OwnMore
import Derived.LoopN
import Derived.Maps.Range
import Derived.OwnWalk
import Derived.Test.YtnnpkomedpjlcaaGreatDoorKE
import Derived.Test.YtnnpkomedpjlcaaGreatDoorKZ
import Derived.Test.YtnnpkomedpjlcaaGreatDoorM4
import Derived.Test.YtnnpkomedpjlcaaGreatDoorTLc
/- core.alone in general. -/
namespace Go.Proofs.YtnnpkomedpjlcaaGreatDoor
set_option linter.unusedSimpArgs false
set_option linter.unusedVariables false
open Go.RowKit Go.Shelf

set_option maxRecDepth 100000 in
set_option maxHeartbeats 4000000 in
theorem alone_rest (W : World) (k : Int) (tx : ByteArray) (nm at' : Int) (a : Option Addr) (n c : Nat) (hs : tx.size ≤ 281474976710656) (ht : typeK k = false) (h44 : k ≠ 44) (h66 : k ≠ 66) :
    Calls Tryz.prog 42 #[.agg #[.int .i64 k, .string tx, .int .i64 nm, .slice a n c, .int .i64 at']] W fun e w' => e = .returned (.agg #[.int .i64 k, .string tx, .int .i64 nm, .slice none 0 0, .int .i64 at']) ∧ Below W.heap.size W w' := by
  have q44 : (k == 44) = false := beq_eq_false_iff_ne.2 h44
  have q66 : (k == 66) = false := beq_eq_false_iff_ne.2 h66
  have HTY := hide ht
  clear h44 h66 ht
  obtain ⟨W1, hW1⟩ : ∃ W1, (W.alloc (.cells #[.int .i64 k, .string tx, .int .i64 nm, .slice a n c, .int .i64 at'] 41)).alloc (.cells #[.int .i64 0, .string ⟨#[]⟩, .int .i64 0, .slice none 0 0, .int .i64 0] 41) = W1 := ⟨_, rfl⟩
  have hB1 : Below W.heap.size W W1 := by rw [← hW1]; exact ((Below.refl _ W).alloc (Nat.le_refl _) _).alloc (by simp) _
  have hz1 : W1.heap.size = W.heap.size + 1 + 1 := by rw [← hW1]; simp
  have hx1 : W1.heap[W.heap.size]? = some (.cells #[.int .i64 k, .string tx, .int .i64 nm, .slice a n c, .int .i64 at'] 41) := by rw [← hW1]; exact rat_a2 W _ _
  have hx2 : W1.heap[W.heap.size + 1]? = some (.cells #[.int .i64 0, .string ⟨#[]⟩, .int .i64 0, .slice none 0 0, .int .i64 0] 41) := by
    rw [← hW1]
    have := World.alloc_heap_new (W.alloc (.cells #[.int .i64 k, .string tx, .int .i64 nm, .slice a n c, .int .i64 at'] 41)) (.cells #[.int .i64 0, .string ⟨#[]⟩, .int .i64 0, .slice none 0 0, .int .i64 0] 41)
    rw [World.size_alloc] at this
    exact this
  have hHS : ∀ w', Below W1.heap.size W1 w' → w'.cell? ⟨W.heap.size, 0, none⟩ = some (.int .i64 k) ∧ w'.cell? ⟨W.heap.size, 1, none⟩ = some (.string tx) ∧ w'.cell? ⟨W.heap.size, 2, none⟩ = some (.int .i64 nm) ∧ w'.cell? ⟨W.heap.size, 4, none⟩ = some (.int .i64 at') := fun w' h => by
    obtain ⟨r0, r1, r2, r3, r4⟩ := rcells5 ((h.block _ (by omega)).trans hx1)
    exact ⟨r0, r1, r2, r4⟩
  have HSS := hide hHS
  have HW1 := hide hW1
  have HX2 := hide hx2
  have HB1 := hide hB1
  have HZ1 := hide hz1
  have t1 : W.heap.size < W1.heap.size := by omega
  have t2 : W.heap.size + 1 < W1.heap.size := by omega
  obtain ⟨c0, c1, c2, c4⟩ := hHS W1 (Below.refl _ _)
  clear hW1 hx1 hx2 hHS hB1 hz1
  go_enter Tryz.func42, Tryz.ntmps42
  go_wp2
  rw [unhide HW1]
  go_region_held3 (fun w' => w'.cell? ⟨W.heap.size, 0, none⟩ = some (.int .i64 k) ∧ w'.cell? ⟨W.heap.size, 1, none⟩ = some (.string tx) ∧ w'.cell? ⟨W.heap.size, 2, none⟩ = some (.int .i64 nm) ∧ w'.cell? ⟨W.heap.size, 4, none⟩ = some (.int .i64 at'))
    (with_reducible first
      | exact unhide HSS _ (Below.refl _ _)
      | exact unhide HSS _ (Below.refl _ _).drew
      | exact unhide HSS _ ((Below.refl _ W1).alloc (Nat.le_refl _) _).drew
      | exact unhide HSS _ ((Below.refl _ W1).drew.alloc (Nat.le_refl _) _)
      | exact unhide HSS _ hb6
      | exact unhide HSS _ (hb6.alloc hb6.size _)
      | exact unhide HSS _ (below5 hb6 _ _ _ _ _ (Nat.le_refl _))
      | exact unhide HSS _ (below5 (hb6.alloc hb6.size _) _ _ _ _ _ hb6.size)
      | assumption)
    ((go_at_call 58; refine (clone43 tx _ (by omega)).mono ?_; rintro e w6 ⟨rfl, hB6⟩; first
      | (have hb6 : Below W1.heap.size W1 w6 := (Below.refl _ W1).drew.trans hB6; clear hB6)
      | (have hb6 : Below W1.heap.size W1 w6 := ((Below.refl _ W1).alloc (Nat.le_refl _) _).drew.trans (hB6.mono (by simp)); have hz6 : w6.heap[W1.heap.size]? = some (.cells #[.int .i64 0, .string ⟨#[]⟩, .int .i64 0, .slice none 0 0, .int .i64 0] 41) := (hB6.block _ (by simp)).trans (World.alloc_heap_new W1 _); have hz5 := hz6; obtain ⟨v0, v1, v2, v3, v4⟩ := rcells5 hz6; have y0 := rfrozen_at hz5 0; have y1 := rfrozen_at hz5 1; have y2 := rfrozen_at hz5 2; have y3 := rfrozen_at hz5 3; have y4 := rfrozen_at hz5 4; have ylt : W1.heap.size < w6.heap.size := (Array.getElem?_eq_some_iff.1 hz5).1; have HZ6 := hide hz5; clear hB6 hz6 hz5)))
  · obtain ⟨w7, hw7⟩ : ∃ w7, w6.alloc (.cells #[.int .i64 k, .string tx, .int .i64 nm, .slice none 0 0, .int .i64 at'] 41) = w7 := ⟨_, rfl⟩
    have hl7 : w7.heap[w6.heap.size]? = some (.cells #[.int .i64 k, .string tx, .int .i64 nm, .slice none 0 0, .int .i64 at'] 41) := by rw [← hw7]; exact World.alloc_heap_new w6 _
    have hb7 : Below W1.heap.size W1 w7 := by rw [← hw7]; exact hb6.alloc hb6.size _
    rw [hw7]
    have hge := hb6.size
    clear hw7 hb6
    generalize w6.heap.size = L at hl7 hge ⊢
    have hN1 : W.heap.size + 1 < w7.heap.size := by have := hb7.size; omega
    have hN0 : W.heap.size < w7.heap.size := by omega
    obtain ⟨b0, b1, b2, b4⟩ := unhide HSS w7 hb7
    obtain ⟨l0, l1, l2, l3, l4⟩ := rcells5 hl7
    have hL : L < w7.heap.size := (Array.getElem?_eq_some_iff.1 hl7).1
    have hx7 := (hb7.block (W.heap.size + 1) t2).trans (unhide HX2)
    obtain ⟨z0, z1, z2, z3, z4⟩ := rcells5 hx7
    have y0 := rfrozen_at hx7 0
    have y1 := rfrozen_at hx7 1
    have y2 := rfrozen_at hx7 2
    have y3 := rfrozen_at hx7 3
    have y4 := rfrozen_at hx7 4
    have HX7 := hide hx7
    have HB7 := hide hb7
    have HT := hide (coreType_any w7 k)
    rw [unhide HTY] at HT
    clear hb7 hl7 hx7 c0 c1 c2 c4
    go_wp2_with (go_at_call 35; refine (unhide HT).mono ?_; rintro e w8 ⟨rfl, hw8⟩; rw [hw8]; clear hw8)
    have h5 := set5 (unhide HX7) (.int .i64 k) (.string tx) (.int .i64 nm) (.slice none 0 0) (.int .i64 at')
    have hB8 : Below W.heap.size W (((((w7.setCell ⟨W.heap.size + 1, 0, none⟩ (.int .i64 k)).setCell ⟨W.heap.size + 1, 1, none⟩ (.string tx)).setCell ⟨W.heap.size + 1, 2, none⟩ (.int .i64 nm)).setCell ⟨W.heap.size + 1, 3, none⟩ (.slice none 0 0)).setCell ⟨W.heap.size + 1, 4, none⟩ (.int .i64 at')) := below5 ((unhide HB1).trans ((unhide HB7).mono (by omega))) _ _ _ _ _ (by omega)
    obtain ⟨W9, hW9⟩ : ∃ W9, ((((w7.setCell ⟨W.heap.size + 1, 0, none⟩ (.int .i64 k)).setCell ⟨W.heap.size + 1, 1, none⟩ (.string tx)).setCell ⟨W.heap.size + 1, 2, none⟩ (.int .i64 nm)).setCell ⟨W.heap.size + 1, 3, none⟩ (.slice none 0 0)).setCell ⟨W.heap.size + 1, 4, none⟩ (.int .i64 at') = W9 := ⟨_, rfl⟩
    rw [hW9] at h5 hB8 ⊢
    obtain ⟨u0, u1, u2, u3, u4⟩ := rcells5 h5
    exact bodyPost_ret (v := .agg #[.int .i64 k, .string tx, .int .i64 nm, .slice none 0 0, .int .i64 at']) (by simp [results, Tryz.results42, go_sem, u0, u1, u2, u3, u4]) rfl ⟨rfl, hB8⟩
  · have hl7 := set5 (unhide HZ6) (.int .i64 k) (.string tx) (.int .i64 nm) (.slice none 0 0) (.int .i64 at')
    have hb7 := below5 (R := W1.heap.size) hb6 (.int .i64 k) (.string tx) (.int .i64 nm) (.slice none 0 0) (.int .i64 at') (Nat.le_refl _)
    obtain ⟨w7, hw7⟩ : ∃ w7, ((((w6.setCell ⟨W1.heap.size, 0, none⟩ (.int .i64 k)).setCell ⟨W1.heap.size, 1, none⟩ (.string tx)).setCell ⟨W1.heap.size, 2, none⟩ (.int .i64 nm)).setCell ⟨W1.heap.size, 3, none⟩ (.slice none 0 0)).setCell ⟨W1.heap.size, 4, none⟩ (.int .i64 at') = w7 := ⟨_, rfl⟩
    rw [hw7] at hl7 hb7 ⊢
    clear hw7 hb6 v0 v1 v2 v3 v4 y0 y1 y2 y3 y4 ylt
    obtain ⟨L, hLe⟩ : ∃ L, W1.heap.size = L := ⟨_, rfl⟩
    rw [hLe] at hl7
    have HLE := hide hLe
    have hge : W1.heap.size ≤ L := Nat.le_of_eq hLe
    simp only [hLe]
    clear hLe
    have hN1 : W.heap.size + 1 < w7.heap.size := by have := hb7.size; omega
    have hN0 : W.heap.size < w7.heap.size := by omega
    obtain ⟨b0, b1, b2, b4⟩ := unhide HSS w7 hb7
    obtain ⟨l0, l1, l2, l3, l4⟩ := rcells5 hl7
    have hL : L < w7.heap.size := (Array.getElem?_eq_some_iff.1 hl7).1
    have hx7 := (hb7.block (W.heap.size + 1) t2).trans (unhide HX2)
    obtain ⟨z0, z1, z2, z3, z4⟩ := rcells5 hx7
    have y0 := rfrozen_at hx7 0
    have y1 := rfrozen_at hx7 1
    have y2 := rfrozen_at hx7 2
    have y3 := rfrozen_at hx7 3
    have y4 := rfrozen_at hx7 4
    have HX7 := hide hx7
    have HB7 := hide hb7
    have HT := hide (coreType_any w7 k)
    rw [unhide HTY] at HT
    clear hb7 hl7 hx7 c0 c1 c2 c4
    go_wp2_with (go_at_call 35; refine (unhide HT).mono ?_; rintro e w8 ⟨rfl, hw8⟩; rw [hw8]; clear hw8)
    have h5 := set5 (unhide HX7) (.int .i64 k) (.string tx) (.int .i64 nm) (.slice none 0 0) (.int .i64 at')
    have hB8 : Below W.heap.size W (((((w7.setCell ⟨W.heap.size + 1, 0, none⟩ (.int .i64 k)).setCell ⟨W.heap.size + 1, 1, none⟩ (.string tx)).setCell ⟨W.heap.size + 1, 2, none⟩ (.int .i64 nm)).setCell ⟨W.heap.size + 1, 3, none⟩ (.slice none 0 0)).setCell ⟨W.heap.size + 1, 4, none⟩ (.int .i64 at')) := below5 ((unhide HB1).trans ((unhide HB7).mono (by omega))) _ _ _ _ _ (by omega)
    obtain ⟨W9, hW9⟩ : ∃ W9, ((((w7.setCell ⟨W.heap.size + 1, 0, none⟩ (.int .i64 k)).setCell ⟨W.heap.size + 1, 1, none⟩ (.string tx)).setCell ⟨W.heap.size + 1, 2, none⟩ (.int .i64 nm)).setCell ⟨W.heap.size + 1, 3, none⟩ (.slice none 0 0)).setCell ⟨W.heap.size + 1, 4, none⟩ (.int .i64 at') = W9 := ⟨_, rfl⟩
    rw [hW9] at h5 hB8 ⊢
    obtain ⟨u0, u1, u2, u3, u4⟩ := rcells5 h5
    exact bodyPost_ret (v := .agg #[.int .i64 k, .string tx, .int .i64 nm, .slice none 0 0, .int .i64 at']) (by simp [results, Tryz.results42, go_sem, u0, u1, u2, u3, u4]) rfl ⟨rfl, hB8⟩
end Go.Proofs.YtnnpkomedpjlcaaGreatDoor

/- core.alone of a type. -/
namespace Go.Proofs.YtnnpkomedpjlcaaGreatDoor
set_option linter.unusedSimpArgs false
set_option linter.unusedVariables false
open Go.RowKit Go.Shelf

set_option maxRecDepth 100000 in
set_option maxHeartbeats 4000000 in
theorem alone_type (W : World) (k : Int) (tx : ByteArray) (nm at' : Int) (a : Option Addr) (n c : Nat) (hs : tx.size ≤ 281474976710656) (ht : typeK k = true) :
    Calls Tryz.prog 42 #[.agg #[.int .i64 k, .string tx, .int .i64 nm, .slice a n c, .int .i64 at']] W fun e w' => e = .returned (.agg #[.int .i64 1, .string ⟨#[]⟩, .int .i64 0, .slice none 0 0, .int .i64 at']) ∧ Below W.heap.size W w' := by
  have HTY := hide ht
  clear ht
  obtain ⟨W1, hW1⟩ : ∃ W1, (W.alloc (.cells #[.int .i64 k, .string tx, .int .i64 nm, .slice a n c, .int .i64 at'] 41)).alloc (.cells #[.int .i64 0, .string ⟨#[]⟩, .int .i64 0, .slice none 0 0, .int .i64 0] 41) = W1 := ⟨_, rfl⟩
  have hB1 : Below W.heap.size W W1 := by rw [← hW1]; exact ((Below.refl _ W).alloc (Nat.le_refl _) _).alloc (by simp) _
  have hz1 : W1.heap.size = W.heap.size + 1 + 1 := by rw [← hW1]; simp
  have hx1 : W1.heap[W.heap.size]? = some (.cells #[.int .i64 k, .string tx, .int .i64 nm, .slice a n c, .int .i64 at'] 41) := by rw [← hW1]; exact rat_a2 W _ _
  have hx2 : W1.heap[W.heap.size + 1]? = some (.cells #[.int .i64 0, .string ⟨#[]⟩, .int .i64 0, .slice none 0 0, .int .i64 0] 41) := by
    rw [← hW1]
    have := World.alloc_heap_new (W.alloc (.cells #[.int .i64 k, .string tx, .int .i64 nm, .slice a n c, .int .i64 at'] 41)) (.cells #[.int .i64 0, .string ⟨#[]⟩, .int .i64 0, .slice none 0 0, .int .i64 0] 41)
    rw [World.size_alloc] at this
    exact this
  have hHS : ∀ w', Below W1.heap.size W1 w' → w'.cell? ⟨W.heap.size, 0, none⟩ = some (.int .i64 k) ∧ w'.cell? ⟨W.heap.size, 1, none⟩ = some (.string tx) ∧ w'.cell? ⟨W.heap.size, 2, none⟩ = some (.int .i64 nm) ∧ w'.cell? ⟨W.heap.size, 4, none⟩ = some (.int .i64 at') := fun w' h => by
    obtain ⟨r0, r1, r2, r3, r4⟩ := rcells5 ((h.block _ (by omega)).trans hx1)
    exact ⟨r0, r1, r2, r4⟩
  have HSS := hide hHS
  have HW1 := hide hW1
  have HX2 := hide hx2
  have HB1 := hide hB1
  have HZ1 := hide hz1
  have t1 : W.heap.size < W1.heap.size := by omega
  have t2 : W.heap.size + 1 < W1.heap.size := by omega
  obtain ⟨c0, c1, c2, c4⟩ := hHS W1 (Below.refl _ _)
  clear hW1 hx1 hx2 hHS hB1 hz1
  go_enter Tryz.func42, Tryz.ntmps42
  go_wp2
  rw [unhide HW1]
  go_region_held3 (fun w' => w'.cell? ⟨W.heap.size, 0, none⟩ = some (.int .i64 k) ∧ w'.cell? ⟨W.heap.size, 1, none⟩ = some (.string tx) ∧ w'.cell? ⟨W.heap.size, 2, none⟩ = some (.int .i64 nm) ∧ w'.cell? ⟨W.heap.size, 4, none⟩ = some (.int .i64 at'))
    (with_reducible first
      | exact unhide HSS _ (Below.refl _ _)
      | exact unhide HSS _ (Below.refl _ _).drew
      | exact unhide HSS _ ((Below.refl _ W1).alloc (Nat.le_refl _) _).drew
      | exact unhide HSS _ ((Below.refl _ W1).drew.alloc (Nat.le_refl _) _)
      | exact unhide HSS _ hb6
      | exact unhide HSS _ (hb6.alloc hb6.size _)
      | exact unhide HSS _ (below5 hb6 _ _ _ _ _ (Nat.le_refl _))
      | exact unhide HSS _ (below5 (hb6.alloc hb6.size _) _ _ _ _ _ hb6.size)
      | assumption)
    ((go_at_call 58; refine (clone43 tx _ (by omega)).mono ?_; rintro e w6 ⟨rfl, hB6⟩; first
      | (have hb6 : Below W1.heap.size W1 w6 := (Below.refl _ W1).drew.trans hB6; clear hB6)
      | (have hb6 : Below W1.heap.size W1 w6 := ((Below.refl _ W1).alloc (Nat.le_refl _) _).drew.trans (hB6.mono (by simp)); have hz6 : w6.heap[W1.heap.size]? = some (.cells #[.int .i64 0, .string ⟨#[]⟩, .int .i64 0, .slice none 0 0, .int .i64 0] 41) := (hB6.block _ (by simp)).trans (World.alloc_heap_new W1 _); have hz5 := hz6; obtain ⟨v0, v1, v2, v3, v4⟩ := rcells5 hz6; have y0 := rfrozen_at hz5 0; have y1 := rfrozen_at hz5 1; have y2 := rfrozen_at hz5 2; have y3 := rfrozen_at hz5 3; have y4 := rfrozen_at hz5 4; have ylt : W1.heap.size < w6.heap.size := (Array.getElem?_eq_some_iff.1 hz5).1; have HZ6 := hide hz5; clear hB6 hz6 hz5)))
  · obtain ⟨w7, hw7⟩ : ∃ w7, w6.alloc (.cells #[.int .i64 k, .string tx, .int .i64 nm, .slice none 0 0, .int .i64 at'] 41) = w7 := ⟨_, rfl⟩
    have hl7 : w7.heap[w6.heap.size]? = some (.cells #[.int .i64 k, .string tx, .int .i64 nm, .slice none 0 0, .int .i64 at'] 41) := by rw [← hw7]; exact World.alloc_heap_new w6 _
    have hb7 : Below W1.heap.size W1 w7 := by rw [← hw7]; exact hb6.alloc hb6.size _
    rw [hw7]
    have hge := hb6.size
    clear hw7 hb6
    generalize w6.heap.size = L at hl7 hge ⊢
    have hN1 : W.heap.size + 1 < w7.heap.size := by have := hb7.size; omega
    have hN0 : W.heap.size < w7.heap.size := by omega
    obtain ⟨b0, b1, b2, b4⟩ := unhide HSS w7 hb7
    obtain ⟨l0, l1, l2, l3, l4⟩ := rcells5 hl7
    have hL : L < w7.heap.size := (Array.getElem?_eq_some_iff.1 hl7).1
    have hx7 := (hb7.block (W.heap.size + 1) t2).trans (unhide HX2)
    obtain ⟨z0, z1, z2, z3, z4⟩ := rcells5 hx7
    have y0 := rfrozen_at hx7 0
    have y1 := rfrozen_at hx7 1
    have y2 := rfrozen_at hx7 2
    have y3 := rfrozen_at hx7 3
    have y4 := rfrozen_at hx7 4
    have HX7 := hide hx7
    have HB7 := hide hb7
    have HT := hide (coreType_any w7 k)
    rw [unhide HTY] at HT
    clear hb7 hl7 hx7 c0 c1 c2 c4
    go_wp2_with (go_at_call 35; refine (unhide HT).mono ?_; rintro e w8 ⟨rfl, hw8⟩; rw [hw8]; clear hw8)
    have h5 := set5 (unhide HX7) (.int .i64 1) (.string ⟨#[]⟩) (.int .i64 0) (.slice none 0 0) (.int .i64 at')
    have hB8 : Below W.heap.size W (((((w7.setCell ⟨W.heap.size + 1, 0, none⟩ (.int .i64 1)).setCell ⟨W.heap.size + 1, 1, none⟩ (.string ⟨#[]⟩)).setCell ⟨W.heap.size + 1, 2, none⟩ (.int .i64 0)).setCell ⟨W.heap.size + 1, 3, none⟩ (.slice none 0 0)).setCell ⟨W.heap.size + 1, 4, none⟩ (.int .i64 at')) := below5 ((unhide HB1).trans ((unhide HB7).mono (by omega))) _ _ _ _ _ (by omega)
    obtain ⟨W9, hW9⟩ : ∃ W9, ((((w7.setCell ⟨W.heap.size + 1, 0, none⟩ (.int .i64 1)).setCell ⟨W.heap.size + 1, 1, none⟩ (.string ⟨#[]⟩)).setCell ⟨W.heap.size + 1, 2, none⟩ (.int .i64 0)).setCell ⟨W.heap.size + 1, 3, none⟩ (.slice none 0 0)).setCell ⟨W.heap.size + 1, 4, none⟩ (.int .i64 at') = W9 := ⟨_, rfl⟩
    rw [hW9] at h5 hB8 ⊢
    obtain ⟨u0, u1, u2, u3, u4⟩ := rcells5 h5
    exact bodyPost_ret (v := .agg #[.int .i64 1, .string ⟨#[]⟩, .int .i64 0, .slice none 0 0, .int .i64 at']) (by simp [results, Tryz.results42, go_sem, u0, u1, u2, u3, u4]) rfl ⟨rfl, hB8⟩
  · have hl7 := set5 (unhide HZ6) (.int .i64 k) (.string tx) (.int .i64 nm) (.slice none 0 0) (.int .i64 at')
    have hb7 := below5 (R := W1.heap.size) hb6 (.int .i64 k) (.string tx) (.int .i64 nm) (.slice none 0 0) (.int .i64 at') (Nat.le_refl _)
    obtain ⟨w7, hw7⟩ : ∃ w7, ((((w6.setCell ⟨W1.heap.size, 0, none⟩ (.int .i64 k)).setCell ⟨W1.heap.size, 1, none⟩ (.string tx)).setCell ⟨W1.heap.size, 2, none⟩ (.int .i64 nm)).setCell ⟨W1.heap.size, 3, none⟩ (.slice none 0 0)).setCell ⟨W1.heap.size, 4, none⟩ (.int .i64 at') = w7 := ⟨_, rfl⟩
    rw [hw7] at hl7 hb7 ⊢
    clear hw7 hb6 v0 v1 v2 v3 v4 y0 y1 y2 y3 y4 ylt
    obtain ⟨L, hLe⟩ : ∃ L, W1.heap.size = L := ⟨_, rfl⟩
    rw [hLe] at hl7
    have HLE := hide hLe
    have hge : W1.heap.size ≤ L := Nat.le_of_eq hLe
    simp only [hLe]
    clear hLe
    have hN1 : W.heap.size + 1 < w7.heap.size := by have := hb7.size; omega
    have hN0 : W.heap.size < w7.heap.size := by omega
    obtain ⟨b0, b1, b2, b4⟩ := unhide HSS w7 hb7
    obtain ⟨l0, l1, l2, l3, l4⟩ := rcells5 hl7
    have hL : L < w7.heap.size := (Array.getElem?_eq_some_iff.1 hl7).1
    have hx7 := (hb7.block (W.heap.size + 1) t2).trans (unhide HX2)
    obtain ⟨z0, z1, z2, z3, z4⟩ := rcells5 hx7
    have y0 := rfrozen_at hx7 0
    have y1 := rfrozen_at hx7 1
    have y2 := rfrozen_at hx7 2
    have y3 := rfrozen_at hx7 3
    have y4 := rfrozen_at hx7 4
    have HX7 := hide hx7
    have HB7 := hide hb7
    have HT := hide (coreType_any w7 k)
    rw [unhide HTY] at HT
    clear hb7 hl7 hx7 c0 c1 c2 c4
    go_wp2_with (go_at_call 35; refine (unhide HT).mono ?_; rintro e w8 ⟨rfl, hw8⟩; rw [hw8]; clear hw8)
    have h5 := set5 (unhide HX7) (.int .i64 1) (.string ⟨#[]⟩) (.int .i64 0) (.slice none 0 0) (.int .i64 at')
    have hB8 : Below W.heap.size W (((((w7.setCell ⟨W.heap.size + 1, 0, none⟩ (.int .i64 1)).setCell ⟨W.heap.size + 1, 1, none⟩ (.string ⟨#[]⟩)).setCell ⟨W.heap.size + 1, 2, none⟩ (.int .i64 0)).setCell ⟨W.heap.size + 1, 3, none⟩ (.slice none 0 0)).setCell ⟨W.heap.size + 1, 4, none⟩ (.int .i64 at')) := below5 ((unhide HB1).trans ((unhide HB7).mono (by omega))) _ _ _ _ _ (by omega)
    obtain ⟨W9, hW9⟩ : ∃ W9, ((((w7.setCell ⟨W.heap.size + 1, 0, none⟩ (.int .i64 1)).setCell ⟨W.heap.size + 1, 1, none⟩ (.string ⟨#[]⟩)).setCell ⟨W.heap.size + 1, 2, none⟩ (.int .i64 0)).setCell ⟨W.heap.size + 1, 3, none⟩ (.slice none 0 0)).setCell ⟨W.heap.size + 1, 4, none⟩ (.int .i64 at') = W9 := ⟨_, rfl⟩
    rw [hW9] at h5 hB8 ⊢
    obtain ⟨u0, u1, u2, u3, u4⟩ := rcells5 h5
    exact bodyPost_ret (v := .agg #[.int .i64 1, .string ⟨#[]⟩, .int .i64 0, .slice none 0 0, .int .i64 at']) (by simp [results, Tryz.results42, go_sem, u0, u1, u2, u3, u4]) rfl ⟨rfl, hB8⟩
end Go.Proofs.YtnnpkomedpjlcaaGreatDoor

/- core.alone of a Field. -/
namespace Go.Proofs.YtnnpkomedpjlcaaGreatDoor
set_option linter.unusedSimpArgs false
set_option linter.unusedVariables false
open Go.RowKit Go.Shelf

set_option maxRecDepth 100000 in
set_option maxHeartbeats 4000000 in
theorem alone_field (W : World) (tx : ByteArray) (nm at' : Int) (a : Option Addr) (n c : Nat) (hs : tx.size ≤ 281474976710656) :
    Calls Tryz.prog 42 #[.agg #[.int .i64 44, .string tx, .int .i64 nm, .slice a n c, .int .i64 at']] W fun e w' => e = .returned (.agg #[.int .i64 44, .string tx, .int .i64 0, .slice none 0 0, .int .i64 at']) ∧ Below W.heap.size W w' := by
  obtain ⟨W1, hW1⟩ : ∃ W1, (W.alloc (.cells #[.int .i64 44, .string tx, .int .i64 nm, .slice a n c, .int .i64 at'] 41)).alloc (.cells #[.int .i64 0, .string ⟨#[]⟩, .int .i64 0, .slice none 0 0, .int .i64 0] 41) = W1 := ⟨_, rfl⟩
  have hB1 : Below W.heap.size W W1 := by rw [← hW1]; exact ((Below.refl _ W).alloc (Nat.le_refl _) _).alloc (by simp) _
  have hz1 : W1.heap.size = W.heap.size + 1 + 1 := by rw [← hW1]; simp
  have hx1 : W1.heap[W.heap.size]? = some (.cells #[.int .i64 44, .string tx, .int .i64 nm, .slice a n c, .int .i64 at'] 41) := by rw [← hW1]; exact rat_a2 W _ _
  have hx2 : W1.heap[W.heap.size + 1]? = some (.cells #[.int .i64 0, .string ⟨#[]⟩, .int .i64 0, .slice none 0 0, .int .i64 0] 41) := by
    rw [← hW1]
    have := World.alloc_heap_new (W.alloc (.cells #[.int .i64 44, .string tx, .int .i64 nm, .slice a n c, .int .i64 at'] 41)) (.cells #[.int .i64 0, .string ⟨#[]⟩, .int .i64 0, .slice none 0 0, .int .i64 0] 41)
    rw [World.size_alloc] at this
    exact this
  have hHS : ∀ w', Below W1.heap.size W1 w' → w'.cell? ⟨W.heap.size, 0, none⟩ = some (.int .i64 44) ∧ w'.cell? ⟨W.heap.size, 1, none⟩ = some (.string tx) ∧ w'.cell? ⟨W.heap.size, 2, none⟩ = some (.int .i64 nm) ∧ w'.cell? ⟨W.heap.size, 4, none⟩ = some (.int .i64 at') := fun w' h => by
    obtain ⟨r0, r1, r2, r3, r4⟩ := rcells5 ((h.block _ (by omega)).trans hx1)
    exact ⟨r0, r1, r2, r4⟩
  have HSS := hide hHS
  have HW1 := hide hW1
  have HX2 := hide hx2
  have HB1 := hide hB1
  have HZ1 := hide hz1
  have t1 : W.heap.size < W1.heap.size := by omega
  have t2 : W.heap.size + 1 < W1.heap.size := by omega
  obtain ⟨c0, c1, c2, c4⟩ := hHS W1 (Below.refl _ _)
  clear hW1 hx1 hx2 hHS hB1 hz1
  go_enter Tryz.func42, Tryz.ntmps42
  go_wp2
  rw [unhide HW1]
  go_region_held3 (fun w' => w'.cell? ⟨W.heap.size, 0, none⟩ = some (.int .i64 44) ∧ w'.cell? ⟨W.heap.size, 1, none⟩ = some (.string tx) ∧ w'.cell? ⟨W.heap.size, 2, none⟩ = some (.int .i64 nm) ∧ w'.cell? ⟨W.heap.size, 4, none⟩ = some (.int .i64 at'))
    (with_reducible first
      | exact unhide HSS _ (Below.refl _ _)
      | exact unhide HSS _ (Below.refl _ _).drew
      | exact unhide HSS _ ((Below.refl _ W1).alloc (Nat.le_refl _) _).drew
      | exact unhide HSS _ ((Below.refl _ W1).drew.alloc (Nat.le_refl _) _)
      | exact unhide HSS _ hb6
      | exact unhide HSS _ (hb6.alloc hb6.size _)
      | exact unhide HSS _ (below5 hb6 _ _ _ _ _ (Nat.le_refl _))
      | exact unhide HSS _ (below5 (hb6.alloc hb6.size _) _ _ _ _ _ hb6.size)
      | assumption)
    ((go_at_call 58; refine (clone43 tx _ (by omega)).mono ?_; rintro e w6 ⟨rfl, hB6⟩; first
      | (have hb6 : Below W1.heap.size W1 w6 := (Below.refl _ W1).drew.trans hB6; clear hB6)
      | (have hb6 : Below W1.heap.size W1 w6 := ((Below.refl _ W1).alloc (Nat.le_refl _) _).drew.trans (hB6.mono (by simp)); have hz6 : w6.heap[W1.heap.size]? = some (.cells #[.int .i64 0, .string ⟨#[]⟩, .int .i64 0, .slice none 0 0, .int .i64 0] 41) := (hB6.block _ (by simp)).trans (World.alloc_heap_new W1 _); have hz5 := hz6; obtain ⟨v0, v1, v2, v3, v4⟩ := rcells5 hz6; have y0 := rfrozen_at hz5 0; have y1 := rfrozen_at hz5 1; have y2 := rfrozen_at hz5 2; have y3 := rfrozen_at hz5 3; have y4 := rfrozen_at hz5 4; have ylt : W1.heap.size < w6.heap.size := (Array.getElem?_eq_some_iff.1 hz5).1; have HZ6 := hide hz5; clear hB6 hz6 hz5)))
  · obtain ⟨w7, hw7⟩ : ∃ w7, w6.alloc (.cells #[.int .i64 44, .string tx, .int .i64 nm, .slice none 0 0, .int .i64 at'] 41) = w7 := ⟨_, rfl⟩
    have hl7 : w7.heap[w6.heap.size]? = some (.cells #[.int .i64 44, .string tx, .int .i64 nm, .slice none 0 0, .int .i64 at'] 41) := by rw [← hw7]; exact World.alloc_heap_new w6 _
    have hb7 : Below W1.heap.size W1 w7 := by rw [← hw7]; exact hb6.alloc hb6.size _
    rw [hw7]
    have hge := hb6.size
    clear hw7 hb6
    generalize w6.heap.size = L at hl7 hge ⊢
    have hN1 : W.heap.size + 1 < w7.heap.size := by have := hb7.size; omega
    have hN0 : W.heap.size < w7.heap.size := by omega
    obtain ⟨b0, b1, b2, b4⟩ := unhide HSS w7 hb7
    obtain ⟨l0, l1, l2, l3, l4⟩ := rcells5 hl7
    have hL : L < w7.heap.size := (Array.getElem?_eq_some_iff.1 hl7).1
    have hx7 := (hb7.block (W.heap.size + 1) t2).trans (unhide HX2)
    obtain ⟨z0, z1, z2, z3, z4⟩ := rcells5 hx7
    have y0 := rfrozen_at hx7 0
    have y1 := rfrozen_at hx7 1
    have y2 := rfrozen_at hx7 2
    have y3 := rfrozen_at hx7 3
    have y4 := rfrozen_at hx7 4
    have HX7 := hide hx7
    have lf2 := rfrozen_at hl7 2
    have hLN : L ≠ W.heap.size + 1 := (by omega)
    have hLN0 : L ≠ W.heap.size := (by omega)
    have HGE := hide hge
    have HB7 := hide hb7
    have HT := hide (coreType_any w7 44)
    clear hb7 hl7 hx7 c0 c1 c2 c4
    go_wp2_with (go_at_call 35; refine (unhide HT).mono ?_; rintro e w8 ⟨rfl, hw8⟩; rw [hw8]; clear hw8)
    have h5 := set5 (show (w7.setCell ⟨L, 2, none⟩ (.int .i64 0)).heap[W.heap.size + 1]? = some (.cells #[.int .i64 0, .string ⟨#[]⟩, .int .i64 0, .slice none 0 0, .int .i64 0] 41) from (Below.heap_setCell _ _ _ _ (Ne.symm hLN)).trans (unhide HX7)) (.int .i64 44) (.string tx) (.int .i64 0) (.slice none 0 0) (.int .i64 at')
    have hB8 : Below W.heap.size W ((((((w7.setCell ⟨L, 2, none⟩ (.int .i64 0)).setCell ⟨W.heap.size + 1, 0, none⟩ (.int .i64 44)).setCell ⟨W.heap.size + 1, 1, none⟩ (.string tx)).setCell ⟨W.heap.size + 1, 2, none⟩ (.int .i64 0)).setCell ⟨W.heap.size + 1, 3, none⟩ (.slice none 0 0)).setCell ⟨W.heap.size + 1, 4, none⟩ (.int .i64 at')) := below5 ((unhide HB1).trans (((unhide HB7).setCell (p := ⟨L, 2, none⟩) (unhide HGE) _).mono (by omega))) _ _ _ _ _ (by omega)
    obtain ⟨W9, hW9⟩ : ∃ W9, (((((w7.setCell ⟨L, 2, none⟩ (.int .i64 0)).setCell ⟨W.heap.size + 1, 0, none⟩ (.int .i64 44)).setCell ⟨W.heap.size + 1, 1, none⟩ (.string tx)).setCell ⟨W.heap.size + 1, 2, none⟩ (.int .i64 0)).setCell ⟨W.heap.size + 1, 3, none⟩ (.slice none 0 0)).setCell ⟨W.heap.size + 1, 4, none⟩ (.int .i64 at') = W9 := ⟨_, rfl⟩
    rw [hW9] at h5 hB8 ⊢
    obtain ⟨u0, u1, u2, u3, u4⟩ := rcells5 h5
    exact bodyPost_ret (v := .agg #[.int .i64 44, .string tx, .int .i64 0, .slice none 0 0, .int .i64 at']) (by simp [results, Tryz.results42, go_sem, u0, u1, u2, u3, u4]) rfl ⟨rfl, hB8⟩
  · have hl7 := set5 (unhide HZ6) (.int .i64 44) (.string tx) (.int .i64 nm) (.slice none 0 0) (.int .i64 at')
    have hb7 := below5 (R := W1.heap.size) hb6 (.int .i64 44) (.string tx) (.int .i64 nm) (.slice none 0 0) (.int .i64 at') (Nat.le_refl _)
    obtain ⟨w7, hw7⟩ : ∃ w7, ((((w6.setCell ⟨W1.heap.size, 0, none⟩ (.int .i64 44)).setCell ⟨W1.heap.size, 1, none⟩ (.string tx)).setCell ⟨W1.heap.size, 2, none⟩ (.int .i64 nm)).setCell ⟨W1.heap.size, 3, none⟩ (.slice none 0 0)).setCell ⟨W1.heap.size, 4, none⟩ (.int .i64 at') = w7 := ⟨_, rfl⟩
    rw [hw7] at hl7 hb7 ⊢
    clear hw7 hb6 v0 v1 v2 v3 v4 y0 y1 y2 y3 y4 ylt
    obtain ⟨L, hLe⟩ : ∃ L, W1.heap.size = L := ⟨_, rfl⟩
    rw [hLe] at hl7
    have HLE := hide hLe
    have hge : W1.heap.size ≤ L := Nat.le_of_eq hLe
    simp only [hLe]
    clear hLe
    have hN1 : W.heap.size + 1 < w7.heap.size := by have := hb7.size; omega
    have hN0 : W.heap.size < w7.heap.size := by omega
    obtain ⟨b0, b1, b2, b4⟩ := unhide HSS w7 hb7
    obtain ⟨l0, l1, l2, l3, l4⟩ := rcells5 hl7
    have hL : L < w7.heap.size := (Array.getElem?_eq_some_iff.1 hl7).1
    have hx7 := (hb7.block (W.heap.size + 1) t2).trans (unhide HX2)
    obtain ⟨z0, z1, z2, z3, z4⟩ := rcells5 hx7
    have y0 := rfrozen_at hx7 0
    have y1 := rfrozen_at hx7 1
    have y2 := rfrozen_at hx7 2
    have y3 := rfrozen_at hx7 3
    have y4 := rfrozen_at hx7 4
    have HX7 := hide hx7
    have lf2 := rfrozen_at hl7 2
    have hLN : L ≠ W.heap.size + 1 := (by omega)
    have hLN0 : L ≠ W.heap.size := (by omega)
    have HGE := hide hge
    have HB7 := hide hb7
    have HT := hide (coreType_any w7 44)
    clear hb7 hl7 hx7 c0 c1 c2 c4
    go_wp2_with (go_at_call 35; refine (unhide HT).mono ?_; rintro e w8 ⟨rfl, hw8⟩; rw [hw8]; clear hw8)
    have h5 := set5 (show (w7.setCell ⟨L, 2, none⟩ (.int .i64 0)).heap[W.heap.size + 1]? = some (.cells #[.int .i64 0, .string ⟨#[]⟩, .int .i64 0, .slice none 0 0, .int .i64 0] 41) from (Below.heap_setCell _ _ _ _ (Ne.symm hLN)).trans (unhide HX7)) (.int .i64 44) (.string tx) (.int .i64 0) (.slice none 0 0) (.int .i64 at')
    have hB8 : Below W.heap.size W ((((((w7.setCell ⟨L, 2, none⟩ (.int .i64 0)).setCell ⟨W.heap.size + 1, 0, none⟩ (.int .i64 44)).setCell ⟨W.heap.size + 1, 1, none⟩ (.string tx)).setCell ⟨W.heap.size + 1, 2, none⟩ (.int .i64 0)).setCell ⟨W.heap.size + 1, 3, none⟩ (.slice none 0 0)).setCell ⟨W.heap.size + 1, 4, none⟩ (.int .i64 at')) := below5 ((unhide HB1).trans (((unhide HB7).setCell (p := ⟨L, 2, none⟩) (unhide HGE) _).mono (by omega))) _ _ _ _ _ (by omega)
    obtain ⟨W9, hW9⟩ : ∃ W9, (((((w7.setCell ⟨L, 2, none⟩ (.int .i64 0)).setCell ⟨W.heap.size + 1, 0, none⟩ (.int .i64 44)).setCell ⟨W.heap.size + 1, 1, none⟩ (.string tx)).setCell ⟨W.heap.size + 1, 2, none⟩ (.int .i64 0)).setCell ⟨W.heap.size + 1, 3, none⟩ (.slice none 0 0)).setCell ⟨W.heap.size + 1, 4, none⟩ (.int .i64 at') = W9 := ⟨_, rfl⟩
    rw [hW9] at h5 hB8 ⊢
    obtain ⟨u0, u1, u2, u3, u4⟩ := rcells5 h5
    exact bodyPost_ret (v := .agg #[.int .i64 44, .string tx, .int .i64 0, .slice none 0 0, .int .i64 at']) (by simp [results, Tryz.results42, go_sem, u0, u1, u2, u3, u4]) rfl ⟨rfl, hB8⟩
end Go.Proofs.YtnnpkomedpjlcaaGreatDoor

/- core.alone of a Param. -/
namespace Go.Proofs.YtnnpkomedpjlcaaGreatDoor
set_option linter.unusedSimpArgs false
set_option linter.unusedVariables false
open Go.RowKit Go.Shelf

set_option maxRecDepth 100000 in
set_option maxHeartbeats 4000000 in
theorem alone_mark (W : World) (tx : ByteArray) (nm at' : Int) (a : Option Addr) (n c : Nat) (hs : tx.size ≤ 281474976710656) (hb : (bits BinOp.and IntKind.i64 nm 6 != 0) = true) :
    Calls Tryz.prog 42 #[.agg #[.int .i64 66, .string tx, .int .i64 nm, .slice a n c, .int .i64 at']] W fun e w' => e = .returned (.agg #[.int .i64 66, .string tx, .int .i64 2, .slice none 0 0, .int .i64 at']) ∧ Below W.heap.size W w' := by
  obtain ⟨W1, hW1⟩ : ∃ W1, (W.alloc (.cells #[.int .i64 66, .string tx, .int .i64 nm, .slice a n c, .int .i64 at'] 41)).alloc (.cells #[.int .i64 0, .string ⟨#[]⟩, .int .i64 0, .slice none 0 0, .int .i64 0] 41) = W1 := ⟨_, rfl⟩
  have hB1 : Below W.heap.size W W1 := by rw [← hW1]; exact ((Below.refl _ W).alloc (Nat.le_refl _) _).alloc (by simp) _
  have hz1 : W1.heap.size = W.heap.size + 1 + 1 := by rw [← hW1]; simp
  have hx1 : W1.heap[W.heap.size]? = some (.cells #[.int .i64 66, .string tx, .int .i64 nm, .slice a n c, .int .i64 at'] 41) := by rw [← hW1]; exact rat_a2 W _ _
  have hx2 : W1.heap[W.heap.size + 1]? = some (.cells #[.int .i64 0, .string ⟨#[]⟩, .int .i64 0, .slice none 0 0, .int .i64 0] 41) := by
    rw [← hW1]
    have := World.alloc_heap_new (W.alloc (.cells #[.int .i64 66, .string tx, .int .i64 nm, .slice a n c, .int .i64 at'] 41)) (.cells #[.int .i64 0, .string ⟨#[]⟩, .int .i64 0, .slice none 0 0, .int .i64 0] 41)
    rw [World.size_alloc] at this
    exact this
  have hHS : ∀ w', Below W1.heap.size W1 w' → w'.cell? ⟨W.heap.size, 0, none⟩ = some (.int .i64 66) ∧ w'.cell? ⟨W.heap.size, 1, none⟩ = some (.string tx) ∧ w'.cell? ⟨W.heap.size, 2, none⟩ = some (.int .i64 nm) ∧ w'.cell? ⟨W.heap.size, 4, none⟩ = some (.int .i64 at') := fun w' h => by
    obtain ⟨r0, r1, r2, r3, r4⟩ := rcells5 ((h.block _ (by omega)).trans hx1)
    exact ⟨r0, r1, r2, r4⟩
  have HSS := hide hHS
  have HW1 := hide hW1
  have HX2 := hide hx2
  have HB1 := hide hB1
  have HZ1 := hide hz1
  have t1 : W.heap.size < W1.heap.size := by omega
  have t2 : W.heap.size + 1 < W1.heap.size := by omega
  obtain ⟨c0, c1, c2, c4⟩ := hHS W1 (Below.refl _ _)
  clear hW1 hx1 hx2 hHS hB1 hz1
  go_enter Tryz.func42, Tryz.ntmps42
  go_wp2
  rw [unhide HW1]
  go_region_held3 (fun w' => w'.cell? ⟨W.heap.size, 0, none⟩ = some (.int .i64 66) ∧ w'.cell? ⟨W.heap.size, 1, none⟩ = some (.string tx) ∧ w'.cell? ⟨W.heap.size, 2, none⟩ = some (.int .i64 nm) ∧ w'.cell? ⟨W.heap.size, 4, none⟩ = some (.int .i64 at'))
    (with_reducible first
      | exact unhide HSS _ (Below.refl _ _)
      | exact unhide HSS _ (Below.refl _ _).drew
      | exact unhide HSS _ ((Below.refl _ W1).alloc (Nat.le_refl _) _).drew
      | exact unhide HSS _ ((Below.refl _ W1).drew.alloc (Nat.le_refl _) _)
      | exact unhide HSS _ hb6
      | exact unhide HSS _ (hb6.alloc hb6.size _)
      | exact unhide HSS _ (below5 hb6 _ _ _ _ _ (Nat.le_refl _))
      | exact unhide HSS _ (below5 (hb6.alloc hb6.size _) _ _ _ _ _ hb6.size)
      | assumption)
    ((go_at_call 58; refine (clone43 tx _ (by omega)).mono ?_; rintro e w6 ⟨rfl, hB6⟩; first
      | (have hb6 : Below W1.heap.size W1 w6 := (Below.refl _ W1).drew.trans hB6; clear hB6)
      | (have hb6 : Below W1.heap.size W1 w6 := ((Below.refl _ W1).alloc (Nat.le_refl _) _).drew.trans (hB6.mono (by simp)); have hz6 : w6.heap[W1.heap.size]? = some (.cells #[.int .i64 0, .string ⟨#[]⟩, .int .i64 0, .slice none 0 0, .int .i64 0] 41) := (hB6.block _ (by simp)).trans (World.alloc_heap_new W1 _); have hz5 := hz6; obtain ⟨v0, v1, v2, v3, v4⟩ := rcells5 hz6; have y0 := rfrozen_at hz5 0; have y1 := rfrozen_at hz5 1; have y2 := rfrozen_at hz5 2; have y3 := rfrozen_at hz5 3; have y4 := rfrozen_at hz5 4; have ylt : W1.heap.size < w6.heap.size := (Array.getElem?_eq_some_iff.1 hz5).1; have HZ6 := hide hz5; clear hB6 hz6 hz5)))
  · obtain ⟨w7, hw7⟩ : ∃ w7, w6.alloc (.cells #[.int .i64 66, .string tx, .int .i64 nm, .slice none 0 0, .int .i64 at'] 41) = w7 := ⟨_, rfl⟩
    have hl7 : w7.heap[w6.heap.size]? = some (.cells #[.int .i64 66, .string tx, .int .i64 nm, .slice none 0 0, .int .i64 at'] 41) := by rw [← hw7]; exact World.alloc_heap_new w6 _
    have hb7 : Below W1.heap.size W1 w7 := by rw [← hw7]; exact hb6.alloc hb6.size _
    rw [hw7]
    have hge := hb6.size
    clear hw7 hb6
    generalize w6.heap.size = L at hl7 hge ⊢
    have hN1 : W.heap.size + 1 < w7.heap.size := by have := hb7.size; omega
    have hN0 : W.heap.size < w7.heap.size := by omega
    obtain ⟨b0, b1, b2, b4⟩ := unhide HSS w7 hb7
    obtain ⟨l0, l1, l2, l3, l4⟩ := rcells5 hl7
    have hL : L < w7.heap.size := (Array.getElem?_eq_some_iff.1 hl7).1
    have hx7 := (hb7.block (W.heap.size + 1) t2).trans (unhide HX2)
    obtain ⟨z0, z1, z2, z3, z4⟩ := rcells5 hx7
    have y0 := rfrozen_at hx7 0
    have y1 := rfrozen_at hx7 1
    have y2 := rfrozen_at hx7 2
    have y3 := rfrozen_at hx7 3
    have y4 := rfrozen_at hx7 4
    have HX7 := hide hx7
    have lf2 := rfrozen_at hl7 2
    have hLN : L ≠ W.heap.size + 1 := (by omega)
    have hLN0 : L ≠ W.heap.size := (by omega)
    have HGE := hide hge
    have HB7 := hide hb7
    have HT := hide (coreType_any w7 66)
    clear hb7 hl7 hx7 c0 c1 c2 c4
    go_wp2_with (go_at_call 35; refine (unhide HT).mono ?_; rintro e w8 ⟨rfl, hw8⟩; rw [hw8]; clear hw8)
    have h5 := set5 (show (w7.setCell ⟨L, 2, none⟩ (.int .i64 2)).heap[W.heap.size + 1]? = some (.cells #[.int .i64 0, .string ⟨#[]⟩, .int .i64 0, .slice none 0 0, .int .i64 0] 41) from (Below.heap_setCell _ _ _ _ (Ne.symm hLN)).trans (unhide HX7)) (.int .i64 66) (.string tx) (.int .i64 2) (.slice none 0 0) (.int .i64 at')
    have hB8 : Below W.heap.size W ((((((w7.setCell ⟨L, 2, none⟩ (.int .i64 2)).setCell ⟨W.heap.size + 1, 0, none⟩ (.int .i64 66)).setCell ⟨W.heap.size + 1, 1, none⟩ (.string tx)).setCell ⟨W.heap.size + 1, 2, none⟩ (.int .i64 2)).setCell ⟨W.heap.size + 1, 3, none⟩ (.slice none 0 0)).setCell ⟨W.heap.size + 1, 4, none⟩ (.int .i64 at')) := below5 ((unhide HB1).trans (((unhide HB7).setCell (p := ⟨L, 2, none⟩) (unhide HGE) _).mono (by omega))) _ _ _ _ _ (by omega)
    obtain ⟨W9, hW9⟩ : ∃ W9, (((((w7.setCell ⟨L, 2, none⟩ (.int .i64 2)).setCell ⟨W.heap.size + 1, 0, none⟩ (.int .i64 66)).setCell ⟨W.heap.size + 1, 1, none⟩ (.string tx)).setCell ⟨W.heap.size + 1, 2, none⟩ (.int .i64 2)).setCell ⟨W.heap.size + 1, 3, none⟩ (.slice none 0 0)).setCell ⟨W.heap.size + 1, 4, none⟩ (.int .i64 at') = W9 := ⟨_, rfl⟩
    rw [hW9] at h5 hB8 ⊢
    obtain ⟨u0, u1, u2, u3, u4⟩ := rcells5 h5
    exact bodyPost_ret (v := .agg #[.int .i64 66, .string tx, .int .i64 2, .slice none 0 0, .int .i64 at']) (by simp [results, Tryz.results42, go_sem, u0, u1, u2, u3, u4]) rfl ⟨rfl, hB8⟩
  · have hl7 := set5 (unhide HZ6) (.int .i64 66) (.string tx) (.int .i64 nm) (.slice none 0 0) (.int .i64 at')
    have hb7 := below5 (R := W1.heap.size) hb6 (.int .i64 66) (.string tx) (.int .i64 nm) (.slice none 0 0) (.int .i64 at') (Nat.le_refl _)
    obtain ⟨w7, hw7⟩ : ∃ w7, ((((w6.setCell ⟨W1.heap.size, 0, none⟩ (.int .i64 66)).setCell ⟨W1.heap.size, 1, none⟩ (.string tx)).setCell ⟨W1.heap.size, 2, none⟩ (.int .i64 nm)).setCell ⟨W1.heap.size, 3, none⟩ (.slice none 0 0)).setCell ⟨W1.heap.size, 4, none⟩ (.int .i64 at') = w7 := ⟨_, rfl⟩
    rw [hw7] at hl7 hb7 ⊢
    clear hw7 hb6 v0 v1 v2 v3 v4 y0 y1 y2 y3 y4 ylt
    obtain ⟨L, hLe⟩ : ∃ L, W1.heap.size = L := ⟨_, rfl⟩
    rw [hLe] at hl7
    have HLE := hide hLe
    have hge : W1.heap.size ≤ L := Nat.le_of_eq hLe
    simp only [hLe]
    clear hLe
    have hN1 : W.heap.size + 1 < w7.heap.size := by have := hb7.size; omega
    have hN0 : W.heap.size < w7.heap.size := by omega
    obtain ⟨b0, b1, b2, b4⟩ := unhide HSS w7 hb7
    obtain ⟨l0, l1, l2, l3, l4⟩ := rcells5 hl7
    have hL : L < w7.heap.size := (Array.getElem?_eq_some_iff.1 hl7).1
    have hx7 := (hb7.block (W.heap.size + 1) t2).trans (unhide HX2)
    obtain ⟨z0, z1, z2, z3, z4⟩ := rcells5 hx7
    have y0 := rfrozen_at hx7 0
    have y1 := rfrozen_at hx7 1
    have y2 := rfrozen_at hx7 2
    have y3 := rfrozen_at hx7 3
    have y4 := rfrozen_at hx7 4
    have HX7 := hide hx7
    have lf2 := rfrozen_at hl7 2
    have hLN : L ≠ W.heap.size + 1 := (by omega)
    have hLN0 : L ≠ W.heap.size := (by omega)
    have HGE := hide hge
    have HB7 := hide hb7
    have HT := hide (coreType_any w7 66)
    clear hb7 hl7 hx7 c0 c1 c2 c4
    go_wp2_with (go_at_call 35; refine (unhide HT).mono ?_; rintro e w8 ⟨rfl, hw8⟩; rw [hw8]; clear hw8)
    have h5 := set5 (show (w7.setCell ⟨L, 2, none⟩ (.int .i64 2)).heap[W.heap.size + 1]? = some (.cells #[.int .i64 0, .string ⟨#[]⟩, .int .i64 0, .slice none 0 0, .int .i64 0] 41) from (Below.heap_setCell _ _ _ _ (Ne.symm hLN)).trans (unhide HX7)) (.int .i64 66) (.string tx) (.int .i64 2) (.slice none 0 0) (.int .i64 at')
    have hB8 : Below W.heap.size W ((((((w7.setCell ⟨L, 2, none⟩ (.int .i64 2)).setCell ⟨W.heap.size + 1, 0, none⟩ (.int .i64 66)).setCell ⟨W.heap.size + 1, 1, none⟩ (.string tx)).setCell ⟨W.heap.size + 1, 2, none⟩ (.int .i64 2)).setCell ⟨W.heap.size + 1, 3, none⟩ (.slice none 0 0)).setCell ⟨W.heap.size + 1, 4, none⟩ (.int .i64 at')) := below5 ((unhide HB1).trans (((unhide HB7).setCell (p := ⟨L, 2, none⟩) (unhide HGE) _).mono (by omega))) _ _ _ _ _ (by omega)
    obtain ⟨W9, hW9⟩ : ∃ W9, (((((w7.setCell ⟨L, 2, none⟩ (.int .i64 2)).setCell ⟨W.heap.size + 1, 0, none⟩ (.int .i64 66)).setCell ⟨W.heap.size + 1, 1, none⟩ (.string tx)).setCell ⟨W.heap.size + 1, 2, none⟩ (.int .i64 2)).setCell ⟨W.heap.size + 1, 3, none⟩ (.slice none 0 0)).setCell ⟨W.heap.size + 1, 4, none⟩ (.int .i64 at') = W9 := ⟨_, rfl⟩
    rw [hW9] at h5 hB8 ⊢
    obtain ⟨u0, u1, u2, u3, u4⟩ := rcells5 h5
    exact bodyPost_ret (v := .agg #[.int .i64 66, .string tx, .int .i64 2, .slice none 0 0, .int .i64 at']) (by simp [results, Tryz.results42, go_sem, u0, u1, u2, u3, u4]) rfl ⟨rfl, hB8⟩
set_option maxRecDepth 100000 in
set_option maxHeartbeats 4000000 in
theorem alone_bare (W : World) (tx : ByteArray) (nm at' : Int) (a : Option Addr) (n c : Nat) (hs : tx.size ≤ 281474976710656) (hb : (bits BinOp.and IntKind.i64 nm 6 != 0) = false) :
    Calls Tryz.prog 42 #[.agg #[.int .i64 66, .string tx, .int .i64 nm, .slice a n c, .int .i64 at']] W fun e w' => e = .returned (.agg #[.int .i64 66, .string tx, .int .i64 0, .slice none 0 0, .int .i64 at']) ∧ Below W.heap.size W w' := by
  obtain ⟨W1, hW1⟩ : ∃ W1, (W.alloc (.cells #[.int .i64 66, .string tx, .int .i64 nm, .slice a n c, .int .i64 at'] 41)).alloc (.cells #[.int .i64 0, .string ⟨#[]⟩, .int .i64 0, .slice none 0 0, .int .i64 0] 41) = W1 := ⟨_, rfl⟩
  have hB1 : Below W.heap.size W W1 := by rw [← hW1]; exact ((Below.refl _ W).alloc (Nat.le_refl _) _).alloc (by simp) _
  have hz1 : W1.heap.size = W.heap.size + 1 + 1 := by rw [← hW1]; simp
  have hx1 : W1.heap[W.heap.size]? = some (.cells #[.int .i64 66, .string tx, .int .i64 nm, .slice a n c, .int .i64 at'] 41) := by rw [← hW1]; exact rat_a2 W _ _
  have hx2 : W1.heap[W.heap.size + 1]? = some (.cells #[.int .i64 0, .string ⟨#[]⟩, .int .i64 0, .slice none 0 0, .int .i64 0] 41) := by
    rw [← hW1]
    have := World.alloc_heap_new (W.alloc (.cells #[.int .i64 66, .string tx, .int .i64 nm, .slice a n c, .int .i64 at'] 41)) (.cells #[.int .i64 0, .string ⟨#[]⟩, .int .i64 0, .slice none 0 0, .int .i64 0] 41)
    rw [World.size_alloc] at this
    exact this
  have hHS : ∀ w', Below W1.heap.size W1 w' → w'.cell? ⟨W.heap.size, 0, none⟩ = some (.int .i64 66) ∧ w'.cell? ⟨W.heap.size, 1, none⟩ = some (.string tx) ∧ w'.cell? ⟨W.heap.size, 2, none⟩ = some (.int .i64 nm) ∧ w'.cell? ⟨W.heap.size, 4, none⟩ = some (.int .i64 at') := fun w' h => by
    obtain ⟨r0, r1, r2, r3, r4⟩ := rcells5 ((h.block _ (by omega)).trans hx1)
    exact ⟨r0, r1, r2, r4⟩
  have HSS := hide hHS
  have HW1 := hide hW1
  have HX2 := hide hx2
  have HB1 := hide hB1
  have HZ1 := hide hz1
  have t1 : W.heap.size < W1.heap.size := by omega
  have t2 : W.heap.size + 1 < W1.heap.size := by omega
  obtain ⟨c0, c1, c2, c4⟩ := hHS W1 (Below.refl _ _)
  clear hW1 hx1 hx2 hHS hB1 hz1
  go_enter Tryz.func42, Tryz.ntmps42
  go_wp2
  rw [unhide HW1]
  go_region_held3 (fun w' => w'.cell? ⟨W.heap.size, 0, none⟩ = some (.int .i64 66) ∧ w'.cell? ⟨W.heap.size, 1, none⟩ = some (.string tx) ∧ w'.cell? ⟨W.heap.size, 2, none⟩ = some (.int .i64 nm) ∧ w'.cell? ⟨W.heap.size, 4, none⟩ = some (.int .i64 at'))
    (with_reducible first
      | exact unhide HSS _ (Below.refl _ _)
      | exact unhide HSS _ (Below.refl _ _).drew
      | exact unhide HSS _ ((Below.refl _ W1).alloc (Nat.le_refl _) _).drew
      | exact unhide HSS _ ((Below.refl _ W1).drew.alloc (Nat.le_refl _) _)
      | exact unhide HSS _ hb6
      | exact unhide HSS _ (hb6.alloc hb6.size _)
      | exact unhide HSS _ (below5 hb6 _ _ _ _ _ (Nat.le_refl _))
      | exact unhide HSS _ (below5 (hb6.alloc hb6.size _) _ _ _ _ _ hb6.size)
      | assumption)
    ((go_at_call 58; refine (clone43 tx _ (by omega)).mono ?_; rintro e w6 ⟨rfl, hB6⟩; first
      | (have hb6 : Below W1.heap.size W1 w6 := (Below.refl _ W1).drew.trans hB6; clear hB6)
      | (have hb6 : Below W1.heap.size W1 w6 := ((Below.refl _ W1).alloc (Nat.le_refl _) _).drew.trans (hB6.mono (by simp)); have hz6 : w6.heap[W1.heap.size]? = some (.cells #[.int .i64 0, .string ⟨#[]⟩, .int .i64 0, .slice none 0 0, .int .i64 0] 41) := (hB6.block _ (by simp)).trans (World.alloc_heap_new W1 _); have hz5 := hz6; obtain ⟨v0, v1, v2, v3, v4⟩ := rcells5 hz6; have y0 := rfrozen_at hz5 0; have y1 := rfrozen_at hz5 1; have y2 := rfrozen_at hz5 2; have y3 := rfrozen_at hz5 3; have y4 := rfrozen_at hz5 4; have ylt : W1.heap.size < w6.heap.size := (Array.getElem?_eq_some_iff.1 hz5).1; have HZ6 := hide hz5; clear hB6 hz6 hz5)))
  · obtain ⟨w7, hw7⟩ : ∃ w7, w6.alloc (.cells #[.int .i64 66, .string tx, .int .i64 nm, .slice none 0 0, .int .i64 at'] 41) = w7 := ⟨_, rfl⟩
    have hl7 : w7.heap[w6.heap.size]? = some (.cells #[.int .i64 66, .string tx, .int .i64 nm, .slice none 0 0, .int .i64 at'] 41) := by rw [← hw7]; exact World.alloc_heap_new w6 _
    have hb7 : Below W1.heap.size W1 w7 := by rw [← hw7]; exact hb6.alloc hb6.size _
    rw [hw7]
    have hge := hb6.size
    clear hw7 hb6
    generalize w6.heap.size = L at hl7 hge ⊢
    have hN1 : W.heap.size + 1 < w7.heap.size := by have := hb7.size; omega
    have hN0 : W.heap.size < w7.heap.size := by omega
    obtain ⟨b0, b1, b2, b4⟩ := unhide HSS w7 hb7
    obtain ⟨l0, l1, l2, l3, l4⟩ := rcells5 hl7
    have hL : L < w7.heap.size := (Array.getElem?_eq_some_iff.1 hl7).1
    have hx7 := (hb7.block (W.heap.size + 1) t2).trans (unhide HX2)
    obtain ⟨z0, z1, z2, z3, z4⟩ := rcells5 hx7
    have y0 := rfrozen_at hx7 0
    have y1 := rfrozen_at hx7 1
    have y2 := rfrozen_at hx7 2
    have y3 := rfrozen_at hx7 3
    have y4 := rfrozen_at hx7 4
    have HX7 := hide hx7
    have lf2 := rfrozen_at hl7 2
    have hLN : L ≠ W.heap.size + 1 := (by omega)
    have hLN0 : L ≠ W.heap.size := (by omega)
    have HGE := hide hge
    have HB7 := hide hb7
    have HT := hide (coreType_any w7 66)
    clear hb7 hl7 hx7 c0 c1 c2 c4
    go_wp2_with (go_at_call 35; refine (unhide HT).mono ?_; rintro e w8 ⟨rfl, hw8⟩; rw [hw8]; clear hw8)
    have h5 := set5 (show (w7.setCell ⟨L, 2, none⟩ (.int .i64 0)).heap[W.heap.size + 1]? = some (.cells #[.int .i64 0, .string ⟨#[]⟩, .int .i64 0, .slice none 0 0, .int .i64 0] 41) from (Below.heap_setCell _ _ _ _ (Ne.symm hLN)).trans (unhide HX7)) (.int .i64 66) (.string tx) (.int .i64 0) (.slice none 0 0) (.int .i64 at')
    have hB8 : Below W.heap.size W ((((((w7.setCell ⟨L, 2, none⟩ (.int .i64 0)).setCell ⟨W.heap.size + 1, 0, none⟩ (.int .i64 66)).setCell ⟨W.heap.size + 1, 1, none⟩ (.string tx)).setCell ⟨W.heap.size + 1, 2, none⟩ (.int .i64 0)).setCell ⟨W.heap.size + 1, 3, none⟩ (.slice none 0 0)).setCell ⟨W.heap.size + 1, 4, none⟩ (.int .i64 at')) := below5 ((unhide HB1).trans (((unhide HB7).setCell (p := ⟨L, 2, none⟩) (unhide HGE) _).mono (by omega))) _ _ _ _ _ (by omega)
    obtain ⟨W9, hW9⟩ : ∃ W9, (((((w7.setCell ⟨L, 2, none⟩ (.int .i64 0)).setCell ⟨W.heap.size + 1, 0, none⟩ (.int .i64 66)).setCell ⟨W.heap.size + 1, 1, none⟩ (.string tx)).setCell ⟨W.heap.size + 1, 2, none⟩ (.int .i64 0)).setCell ⟨W.heap.size + 1, 3, none⟩ (.slice none 0 0)).setCell ⟨W.heap.size + 1, 4, none⟩ (.int .i64 at') = W9 := ⟨_, rfl⟩
    rw [hW9] at h5 hB8 ⊢
    obtain ⟨u0, u1, u2, u3, u4⟩ := rcells5 h5
    exact bodyPost_ret (v := .agg #[.int .i64 66, .string tx, .int .i64 0, .slice none 0 0, .int .i64 at']) (by simp [results, Tryz.results42, go_sem, u0, u1, u2, u3, u4]) rfl ⟨rfl, hB8⟩
  · have hl7 := set5 (unhide HZ6) (.int .i64 66) (.string tx) (.int .i64 nm) (.slice none 0 0) (.int .i64 at')
    have hb7 := below5 (R := W1.heap.size) hb6 (.int .i64 66) (.string tx) (.int .i64 nm) (.slice none 0 0) (.int .i64 at') (Nat.le_refl _)
    obtain ⟨w7, hw7⟩ : ∃ w7, ((((w6.setCell ⟨W1.heap.size, 0, none⟩ (.int .i64 66)).setCell ⟨W1.heap.size, 1, none⟩ (.string tx)).setCell ⟨W1.heap.size, 2, none⟩ (.int .i64 nm)).setCell ⟨W1.heap.size, 3, none⟩ (.slice none 0 0)).setCell ⟨W1.heap.size, 4, none⟩ (.int .i64 at') = w7 := ⟨_, rfl⟩
    rw [hw7] at hl7 hb7 ⊢
    clear hw7 hb6 v0 v1 v2 v3 v4 y0 y1 y2 y3 y4 ylt
    obtain ⟨L, hLe⟩ : ∃ L, W1.heap.size = L := ⟨_, rfl⟩
    rw [hLe] at hl7
    have HLE := hide hLe
    have hge : W1.heap.size ≤ L := Nat.le_of_eq hLe
    simp only [hLe]
    clear hLe
    have hN1 : W.heap.size + 1 < w7.heap.size := by have := hb7.size; omega
    have hN0 : W.heap.size < w7.heap.size := by omega
    obtain ⟨b0, b1, b2, b4⟩ := unhide HSS w7 hb7
    obtain ⟨l0, l1, l2, l3, l4⟩ := rcells5 hl7
    have hL : L < w7.heap.size := (Array.getElem?_eq_some_iff.1 hl7).1
    have hx7 := (hb7.block (W.heap.size + 1) t2).trans (unhide HX2)
    obtain ⟨z0, z1, z2, z3, z4⟩ := rcells5 hx7
    have y0 := rfrozen_at hx7 0
    have y1 := rfrozen_at hx7 1
    have y2 := rfrozen_at hx7 2
    have y3 := rfrozen_at hx7 3
    have y4 := rfrozen_at hx7 4
    have HX7 := hide hx7
    have lf2 := rfrozen_at hl7 2
    have hLN : L ≠ W.heap.size + 1 := (by omega)
    have hLN0 : L ≠ W.heap.size := (by omega)
    have HGE := hide hge
    have HB7 := hide hb7
    have HT := hide (coreType_any w7 66)
    clear hb7 hl7 hx7 c0 c1 c2 c4
    go_wp2_with (go_at_call 35; refine (unhide HT).mono ?_; rintro e w8 ⟨rfl, hw8⟩; rw [hw8]; clear hw8)
    have h5 := set5 (show (w7.setCell ⟨L, 2, none⟩ (.int .i64 0)).heap[W.heap.size + 1]? = some (.cells #[.int .i64 0, .string ⟨#[]⟩, .int .i64 0, .slice none 0 0, .int .i64 0] 41) from (Below.heap_setCell _ _ _ _ (Ne.symm hLN)).trans (unhide HX7)) (.int .i64 66) (.string tx) (.int .i64 0) (.slice none 0 0) (.int .i64 at')
    have hB8 : Below W.heap.size W ((((((w7.setCell ⟨L, 2, none⟩ (.int .i64 0)).setCell ⟨W.heap.size + 1, 0, none⟩ (.int .i64 66)).setCell ⟨W.heap.size + 1, 1, none⟩ (.string tx)).setCell ⟨W.heap.size + 1, 2, none⟩ (.int .i64 0)).setCell ⟨W.heap.size + 1, 3, none⟩ (.slice none 0 0)).setCell ⟨W.heap.size + 1, 4, none⟩ (.int .i64 at')) := below5 ((unhide HB1).trans (((unhide HB7).setCell (p := ⟨L, 2, none⟩) (unhide HGE) _).mono (by omega))) _ _ _ _ _ (by omega)
    obtain ⟨W9, hW9⟩ : ∃ W9, (((((w7.setCell ⟨L, 2, none⟩ (.int .i64 0)).setCell ⟨W.heap.size + 1, 0, none⟩ (.int .i64 66)).setCell ⟨W.heap.size + 1, 1, none⟩ (.string tx)).setCell ⟨W.heap.size + 1, 2, none⟩ (.int .i64 0)).setCell ⟨W.heap.size + 1, 3, none⟩ (.slice none 0 0)).setCell ⟨W.heap.size + 1, 4, none⟩ (.int .i64 at') = W9 := ⟨_, rfl⟩
    rw [hW9] at h5 hB8 ⊢
    obtain ⟨u0, u1, u2, u3, u4⟩ := rcells5 h5
    exact bodyPost_ret (v := .agg #[.int .i64 66, .string tx, .int .i64 0, .slice none 0 0, .int .i64 at']) (by simp [results, Tryz.results42, go_sem, u0, u1, u2, u3, u4]) rfl ⟨rfl, hB8⟩
end Go.Proofs.YtnnpkomedpjlcaaGreatDoor

/- core.alone in general; what Strip lays, purely. -/
namespace Go.Proofs.YtnnpkomedpjlcaaGreatDoor
set_option linter.unusedSimpArgs false
set_option linter.unusedVariables false
open Go.RowKit Go.Shelf

/-- A Param that is Public or Readonly. -/
def markP (n : Int) : Bool := bits BinOp.and IntKind.i64 n 6 != 0
/-- What is left of a node, its kids aside. -/
def aloneN (x : Nd) : Nd :=
  if typeK x.kind = true then ⟨1, ⟨#[]⟩, 0, [], x.at'⟩
  else if x.kind = 44 then ⟨44, x.text, 0, [], x.at'⟩
  else if x.kind = 66 then ⟨66, x.text, if markP x.num = true then 2 else 0, [], x.at'⟩
  else ⟨x.kind, x.text, x.num, [], x.at'⟩
theorem alone_any (W : World) (x : Nd) (a : Option Addr) (c : Nat) (hs : x.text.size ≤ 281474976710656) : Calls Tryz.prog 42 #[ndV x a c] W fun e w' => e = .returned (ndV (aloneN x) none 0) ∧ Below W.heap.size W w' := by
  obtain ⟨k, tx, nm, ks, at'⟩ := x
  by_cases ht : typeK k = true
  · have h := alone_type W k tx nm at' a ks.length c hs ht
    have e : aloneN ⟨k, tx, nm, ks, at'⟩ = ⟨1, ⟨#[]⟩, 0, [], at'⟩ := by simp [aloneN, ht]
    rw [e]
    exact h
  · have ht' : typeK k = false := by simpa using ht
    by_cases h44 : k = 44
    · subst h44
      have h := alone_field W tx nm at' a ks.length c hs
      have e : aloneN ⟨44, tx, nm, ks, at'⟩ = ⟨44, tx, 0, [], at'⟩ := by simp [aloneN, ht']
      rw [e]
      exact h
    · by_cases h66 : k = 66
      · subst h66
        cases hm : markP nm with
        | true =>
          have h := alone_mark W tx nm at' a ks.length c hs hm
          have e : aloneN ⟨66, tx, nm, ks, at'⟩ = ⟨66, tx, 2, [], at'⟩ := by simp [aloneN, ht', hm]
          rw [e]
          exact h
        | false =>
          have h := alone_bare W tx nm at' a ks.length c hs hm
          have e : aloneN ⟨66, tx, nm, ks, at'⟩ = ⟨66, tx, 0, [], at'⟩ := by simp [aloneN, ht', hm]
          rw [e]
          exact h
      · have h := alone_rest W k tx nm at' a ks.length c hs ht' h44 h66
        have e : aloneN ⟨k, tx, nm, ks, at'⟩ = ⟨k, tx, nm, [], at'⟩ := by simp [aloneN, ht', h44, h66]
        rw [e]
        exact h

/-- What Strip lays of kids, one behind the other, from a place on: where each stands, and the nodes. -/
def layK (one : Nat → Nat → List Nd) : List Int → Nat → List Int × List Nd
  | [], _ => ([], [])
  | k :: ks, p => ((p : Int) :: (layK one ks (p + (one k.toNat p).length)).1, one k.toNat p ++ (layK one ks (p + (one k.toNat p).length)).2)
/-- What Strip lays of a node at a place. -/
def layF (l : List Nd) : Nat → Nat → Nat → List Nd
  | 0, _, _ => []
  | f + 1, n, p => { aloneN (nd l (inn l n)) with kids := (layK (layF l f) ((nd l (inn l n)).kids.filter fun k => !leftP (ruleF (nd l n).kind) l k.toNat) (p + 1)).1 } :: (layK (layF l f) ((nd l (inn l n)).kids.filter fun k => !leftP (ruleF (nd l n).kind) l k.toNat) (p + 1)).2
/-- What Strip leaves of a tree. -/
def stripP (l : List Nd) : List Nd := layF l l.length 0 0
end Go.Proofs.YtnnpkomedpjlcaaGreatDoor

/- What Strip lays, purely: lengths, and that enough is enough. -/
namespace Go.Proofs.YtnnpkomedpjlcaaGreatDoor
set_option linter.unusedSimpArgs false
set_option linter.unusedVariables false

theorem chain_kids {l : List Nd} : ∀ (ks : List Int) (next e : Nat), Chain l ks next e → ∀ k ∈ ks, ∃ q : Nat, k = (q : Int) ∧ Fine l q ∧ next ≤ q ∧ en l q ≤ e
  | [], _, _, _, k, hk => by cases hk
  | k0 :: ks, next, e, h, k, hk => by
    obtain ⟨h1, hf, hc⟩ := h
    have hle := hf.le
    have hce := chain_le ks _ e hc
    rcases List.mem_cons.1 hk with rfl | hk
    · exact ⟨next, h1, hf, Nat.le_refl _, hce⟩
    · obtain ⟨q, e1, e2, e3, e4⟩ := chain_kids ks _ e hc k hk
      exact ⟨q, e1, e2, by omega, e4⟩
theorem inn_in {l : List Nd} (hc : (chkP l).2 = 0) : ∀ (d n : Nat), l.length - n ≤ d → n < l.length → n ≤ inn l n ∧ inn l n < l.length ∧ en l (inn l n) ≤ en l n ∧ ¬ ((nd l (inn l n)).kind = 33 ∨ (nd l (inn l n)).kind = 34)
  | 0, n, hd, hn => by omega
  | d + 1, n, hd, hn => by
    by_cases hk : (nd l n).kind = 33 ∨ (nd l n).kind = 34
    · have hf := chk_all hc hn
      have h1 := about_in hc hn hk
      have h0 := about_kid hf.fit hk
      rw [inn_go hn hk]
      obtain ⟨a, b, c, e⟩ := inn_in hc d (n + 1) (by omega) h1
      have hm : (nd l n).kids.getD 0 0 ∈ (nd l n).kids := by rw [List.getD_eq_getElem?_getD, List.getElem?_eq_getElem h0]; exact List.getElem_mem _
      obtain ⟨q, e1, _, _, e4⟩ := chain_kids _ _ _ hf.chain _ hm
      have hq : q = n + 1 := by have := kid_first hf h0; omega
      subst hq
      exact ⟨by omega, b, by omega, e⟩
    · rw [inn_stop hk]
      exact ⟨Nat.le_refl _, hn, Nat.le_refl _, hk⟩
theorem layK_append (one : Nat → Nat → List Nd) : ∀ (a b : List Int) (p : Nat), layK one (a ++ b) p = ((layK one a p).1 ++ (layK one b (p + (layK one a p).2.length)).1, (layK one a p).2 ++ (layK one b (p + (layK one a p).2.length)).2)
  | [], b, p => by simp [layK]
  | k :: a, b, p => by
    have ih := layK_append one a b (p + (one k.toNat p).length)
    simp only [List.cons_append, layK]
    rw [ih]
    simp only [List.length_append, List.append_assoc, Nat.add_assoc, List.cons_append]
theorem layK_same {one one' : Nat → Nat → List Nd} : ∀ (ks : List Int) (p : Nat), (∀ k ∈ ks, ∀ p, one k.toNat p = one' k.toNat p) → layK one ks p = layK one' ks p
  | [], p, _ => rfl
  | k :: ks, p, h => by
    have h1 := h k (by simp)
    simp only [layK]
    rw [h1 p, layK_same ks _ (fun k' hk' => h k' (by simp [hk']))]
theorem layK_len (one : Nat → Nat → List Nd) {l : List Nd} (q : Int → Bool) : ∀ (ks : List Int) (next e p : Nat), Chain l ks next e → (∀ k ∈ ks, ∀ p, (one k.toNat p).length ≤ en l k.toNat - k.toNat) → (layK one (ks.filter q) p).2.length ≤ e - next
  | [], next, e, p, h, _ => by simp [layK]
  | k :: ks, next, e, p, h, ho => by
    obtain ⟨h1, hf, hc⟩ := h
    have hle := hf.le
    have hce := chain_le ks _ e hc
    have h0 := ho k (by simp) p
    rw [h1] at h0
    simp only [Int.toNat_natCast] at h0
    by_cases hq : q k = true
    · rw [List.filter_cons_of_pos hq]
      have ih := layK_len one q ks _ e (p + (one k.toNat p).length) hc (fun k' hk' => ho k' (by simp [hk']))
      simp only [layK, List.length_append]
      rw [h1] at ih ⊢
      simp only [Int.toNat_natCast] at ih ⊢
      omega
    · rw [List.filter_cons_of_neg (by simpa using hq)]
      have ih := layK_len one q ks _ e p hc (fun k' hk' => ho k' (by simp [hk']))
      omega
theorem layF_len {l : List Nd} (hc : (chkP l).2 = 0) : ∀ (f n p : Nat), n < l.length → (layF l f n p).length ≤ en l n - n
  | 0, n, p, _ => by simp [layF]
  | f + 1, n, p, hn => by
    obtain ⟨a, b, c, _⟩ := inn_in hc _ n (Nat.le_refl _) hn
    have hf := chk_all hc b
    have hle := hf.le
    have h := layK_len (layF l f) (l := l) (fun k => !leftP (ruleF (nd l n).kind) l k.toNat) _ _ _ (p + 1) hf.chain (fun k hk p' => by
      obtain ⟨q, rfl, hq, _, _⟩ := chain_kids _ _ _ hf.chain k hk
      simp only [Int.toNat_natCast]
      exact layF_len hc f q p' hq.1)
    simp only [layF, List.length_cons]
    omega
theorem layF_fuel {l : List Nd} (hc : (chkP l).2 = 0) : ∀ (f f' n p : Nat), n < l.length → en l n - n ≤ f → en l n - n ≤ f' → layF l f n p = layF l f' n p
  | 0, f', n, p, hn, h, _ => by
    have := (chk_all hc hn).le
    omega
  | f + 1, 0, n, p, hn, _, h => by
    have := (chk_all hc hn).le
    omega
  | f + 1, f' + 1, n, p, hn, h, h' => by
    obtain ⟨a, b, c, _⟩ := inn_in hc _ n (Nat.le_refl _) hn
    have hf := chk_all hc b
    have e : layK (layF l f) ((nd l (inn l n)).kids.filter fun k => !leftP (ruleF (nd l n).kind) l k.toNat) (p + 1) = layK (layF l f') ((nd l (inn l n)).kids.filter fun k => !leftP (ruleF (nd l n).kind) l k.toNat) (p + 1) :=
      layK_same _ _ fun k hk p' => by
        obtain ⟨q, rfl, hq, h1, h2⟩ := chain_kids _ _ _ hf.chain k (List.mem_filter.1 hk).1
        simp only [Int.toNat_natCast]
        exact layF_fuel hc f f' q p' hq.1 (by omega) (by omega)
    simp only [layF]
    rw [e]
end Go.Proofs.YtnnpkomedpjlcaaGreatDoor

/- The stripper in memory; what a rule's function answers. -/
namespace Go.Proofs.YtnnpkomedpjlcaaGreatDoor
set_option linter.unusedSimpArgs false
set_option linter.unusedVariables false
open Go.RowKit Go.Shelf

/-- A node's kids, in a row that is whole; none at all where there are none. -/
def KidR (W : World) (B : Nat) (e : NE) : Prop := KidO W B e ∧ (e.x.kids = [] → e.a = none ∧ e.cap = 0) ∧ (e.x.kids ≠ [] → W.ownsRow B 3 1 (.slice e.a e.x.kids.length e.cap) e.x.kids.length (kvs e.x.kids))
theorem KidR.keep {W W' : World} {B : Nat} {e : NE} (h : KidR W B e) (hk : ∀ (k : Nat) (cur : Array Value), W.heap[k]? = some (Obj.cells cur 3 (0, 0)) → W'.heap[k]? = W.heap[k]?) : KidR W' B e := by
  refine ⟨h.1.keep hk, h.2.1, fun hne => ownsRow_heap (h.2.2 hne) fun g hg => ?_⟩
  rcases (h.2.2 hne).2 with ⟨h0, _⟩ | ⟨g', c', cur, h0, _, hh, _⟩
  · rw [h0] at hg; cases hg
  · rw [h0] at hg
    have e : g' = g := by simpa [Value.ownBlock] using hg
    subst e
    exact hk g' cur hh
/-- A row of nodes of the call's own, their kids in whole rows. -/
def OwnR (W : World) (B : Nat) (v : Value) (es : List NE) : Prop := W.ownsRow B 41 5 v es.length (flatN es) ∧ ∀ e ∈ es, KidR W B e
theorem OwnR.ownN {W : World} {B : Nat} {v : Value} {es : List NE} (h : OwnR W B v es) : OwnN W B v es := ⟨h.1, fun e he => (h.2 e he).1⟩
/-- The stripper lies there: where it strips from, and what is left so far, rows of its own. -/
def StAt (W : World) (B S : Nat) (v lv : Value) (es : List NE) : Prop := W.heap[S]? = some (.cells #[v, lv] 50) ∧ OwnR W B lv es
/-- Nothing that lay there has turned but for the stripper and what was left; what is left is where it was or new. -/
def StF (W w' : World) (S : Nat) (lv lv' : Value) : Prop :=
  w'.os = W.os ∧ w'.tape = W.tape ∧ w'.output = W.output ∧ W.heap.size ≤ w'.heap.size ∧ (∀ k, k < W.heap.size → k ≠ S → some k ≠ lv.ownBlock → w'.heap[k]? = W.heap[k]?) ∧ (lv'.ownBlock = lv.ownBlock ∨ ∀ k, lv'.ownBlock = some k → W.heap.size ≤ k)
theorem StF.refl (W : World) (S : Nat) (lv : Value) : StF W W S lv lv := ⟨rfl, rfl, rfl, Nat.le_refl _, fun _ _ _ _ => rfl, .inl rfl⟩
theorem StF.trans {W w1 w2 : World} {S : Nat} {lv lv1 lv2 : Value} (h : StF W w1 S lv lv1) (k : StF w1 w2 S lv1 lv2) : StF W w2 S lv lv2 := by
  obtain ⟨a1, a2, a3, a4, a5, a6⟩ := h
  obtain ⟨b1, b2, b3, b4, b5, b6⟩ := k
  refine ⟨b1.trans a1, b2.trans a2, b3.trans a3, Nat.le_trans a4 b4, fun k hk hS hl => (b5 k (by omega) hS (fun e => ?_)).trans (a5 k hk hS hl), ?_⟩
  · rcases a6 with h | h
    · exact hl (e.trans h)
    · have := h k e.symm
      omega
  · rcases b6 with h | h
    · rcases a6 with h' | h'
      · exact .inl (h.trans h')
      · exact .inr fun k hk => h' k (h.symm.trans hk)
    · exact .inr fun k hk => Nat.le_trans a4 (h k hk)
theorem StF.below {W w' : World} {B S : Nat} {v lv lv' : Value} {es : List NE} (h : StF W w' S lv lv') (hs : StAt W B S v lv es) (hB : B ≤ S) (hBW : B ≤ W.heap.size) : Below B W w' := by
  obtain ⟨a1, a2, a3, a4, a5, a6⟩ := h
  refine ⟨a1, a2, a3, a4, fun k hk => a5 k (by omega) (by omega) (fun e => ?_)⟩
  have := (hs.2.1.lt k e.symm).1
  omega
/-- A row of whole numbers that the call itself has is as it was. -/
theorem StF.row {W w' : World} {B B' S n : Nat} {v lv lv' u : Value} {es : List NE} {xs : List Value} (h : StF W w' S lv lv') (hs : StAt W B S v lv es) (hr : W.ownsRow B' 3 1 u n xs) : w'.ownsRow B' 3 1 u n xs := by
  refine ownsRow_heap hr fun k hk => ?_
  have hlt := (hr.lt k hk).2
  rcases hr.2 with ⟨h0, _⟩ | ⟨g, cap, cur, h0, _, hh, _⟩
  · rw [h0] at hk; cases hk
  · rw [h0] at hk
    have e : g = k := by simpa [Value.ownBlock] using hk
    subst e
    refine h.2.2.2.2.1 g hlt (fun e => ?_) (fun e => ?_)
    · rw [e, hs.1] at hh; cases hh
    · rcases hs.2.1.2 with ⟨h1, _⟩ | ⟨g1, cap1, cur1, h1, _, hh1, _⟩
      · rw [h1] at e; cases e
      · rw [h1] at e
        simp only [Value.ownBlock, Option.some.injEq] at e
        rw [← e, hh] at hh1
        cases hh1

theorem kidsX50 {l : List Nd} {n : Nat} (hf : Fine l n) (hk : (nd l n).kind = 50) : 0 < (nd l n).kids.length ∧ ins l ((nd l n).kids.getD 0 0) = true := by
  have h := kz_len1 (fit_kz hf.fit (by rw [hk]; rfl) rfl)
  exact ⟨h, hf.ins _ (by rw [List.getD_eq_getElem?_getD, List.getElem?_eq_getElem h]; exact List.getElem_mem _)⟩
theorem kidsX44 {l : List Nd} {n : Nat} (hf : Fine l n) (hk : (nd l n).kind = 44) : 1 < (nd l n).kids.length ∧ ins l ((nd l n).kids.getD 1 0) = true := by
  have h := kz_len2 (fit_kz hf.fit (by rw [hk]; rfl) rfl)
  have h1 : 1 < (nd l n).kids.length := by omega
  exact ⟨h1, hf.ins _ (by rw [List.getD_eq_getElem?_getD, List.getElem?_eq_getElem h1]; exact List.getElem_mem _)⟩
/-- A rule's function, whichever. -/
theorem rule_call (W : World) (M : Nat) (v : Value) (l : List Nd) (n : Nat) (k : Int) (hN : Nodes W M v l) (hM : M ≤ W.heap.size) (hf : Fine l n) :
    Calls Tryz.prog (ruleF k) #[v, .int .i64 (n : Int)] W fun e w' => e = .returned (.bool (leftP (ruleF k) l n)) ∧ w' = W := by
  unfold ruleF
  by_cases h1 : k = 3 ∨ k = 63 ∨ k = 49
  · rw [if_pos h1]
    exact forT_any W M v l n hN hM hf.1 (kidsX50 hf)
  · rw [if_neg h1]
    by_cases h2 : k = 2
    · rw [if_pos h2]
      exact listT_any W M v l n hN hM hf.1 (kidsX44 hf)
    · rw [if_neg h2]
      by_cases h3 : typeK k = true
      · rw [if_pos h3]
        exact always_any W v n
      · rw [if_neg h3]
        exact never_any W v n
/-- A rule's function is entered. -/
theorem rule_enter (k : Int) : ∀ args w, (callFunc (ruleF k) args).run Tryz.prog w = .ok (.enter (ruleF k) args) w := by
  unfold ruleF
  by_cases h1 : k = 3 ∨ k = 63 ∨ k = 49
  · rw [if_pos h1]
    exact enters_of Tryz.func43 (by kernel_rfl) rfl
  · rw [if_neg h1]
    by_cases h2 : k = 2
    · rw [if_pos h2]
      exact enters_of Tryz.func44 (by kernel_rfl) rfl
    · rw [if_neg h2]
      by_cases h3 : typeK k = true
      · rw [if_pos h3]
        exact enters_of Tryz.func45 (by kernel_rfl) rfl
      · rw [if_neg h3]
        exact enters_of Tryz.func46 (by kernel_rfl) rfl
end Go.Proofs.YtnnpkomedpjlcaaGreatDoor

/- The stripper in memory: a node laid, a number behind, kids set. -/
namespace Go.Proofs.YtnnpkomedpjlcaaGreatDoor
set_option linter.unusedSimpArgs false
set_option linter.unusedVariables false
open Go.RowKit Go.Shelf

theorem StAt.far {W : World} {B S : Nat} {v lv : Value} {es : List NE} (h : StAt W B S v lv es) : some S ≠ lv.ownBlock := fun e => by
  rcases h.2.1.2 with ⟨h1, _⟩ | ⟨g1, cap1, cur1, h1, _, hh1, _⟩
  · rw [h1] at e; cases e
  · rw [h1] at e
    simp only [Value.ownBlock, Option.some.injEq] at e
    rw [← e, h.1] at hh1
    cases hh1
/-- A row of kids is not what holds nodes, and not the stripper. -/
theorem StAt.ints {W : World} {B S k : Nat} {v lv : Value} {es : List NE} {cur : Array Value} (h : StAt W B S v lv es) (hk : W.heap[k]? = some (Obj.cells cur 3 (0, 0))) : k ≠ S ∧ some k ≠ lv.ownBlock := by
  refine ⟨fun e => ?_, fun e => ?_⟩
  · rw [e, h.1] at hk; cases hk
  · rcases h.2.1.2 with ⟨h1, _⟩ | ⟨g1, cap1, cur1, h1, _, hh1, _⟩
    · rw [h1] at e; cases e
    · rw [h1] at e
      simp only [Value.ownBlock, Option.some.injEq] at e
      rw [← e, hk] at hh1
      cases hh1
/-- A node is laid behind. -/
theorem StAt.laid {W w6 w4 : World} {B S g4 cap4 : Nat} {v lv : Value} {es : List NE} {e0 : NE} {o : Obj} (hst : StAt W B S v lv es) (hBS : B ≤ S) (hBW : B ≤ W.heap.size) (hb6 : Below W.heap.size W w6) (hgrow : (w6.alloc o).grownBy w4 lv.ownBlock) (hown : w4.ownsRow B 41 5 (.slice (some ⟨g4, 0, none⟩) (es.length + 1) cap4) (es.length + 1) (flatN es ++ cellN e0)) (hat : lv.ownBlock = some g4 ∨ g4 = (w6.alloc o).heap.size) (he : e0.x.kids = []) (hea : e0.a = none) (hcap : e0.cap = 0) :
    StAt (w4.setCell ⟨S, 1, none⟩ (.slice (some ⟨g4, 0, none⟩) (es.length + 1) cap4)) B S v (.slice (some ⟨g4, 0, none⟩) (es.length + 1) cap4) (es ++ [e0]) ∧ StF W (w4.setCell ⟨S, 1, none⟩ (.slice (some ⟨g4, 0, none⟩) (es.length + 1) cap4)) S lv (.slice (some ⟨g4, 0, none⟩) (es.length + 1) cap4) := by
  have hSl : S < W.heap.size := (Array.getElem?_eq_some_iff.1 hst.1).1
  have hba := hb6.alloc hb6.size o
  have hs4 : w4.heap[S]? = some (.cells #[v, lv] 50) := ((hgrow.block S (by have := hb6.size; simp; omega) hst.far).trans (hba.block S hSl)).trans hst.1
  have hz := hgrow.size
  have hz6 := hb6.size
  simp only [World.size_alloc] at hz hat
  have hkeep : ∀ k, k < W.heap.size → k ≠ S → some k ≠ lv.ownBlock → (w4.setCell ⟨S, 1, none⟩ (.slice (some ⟨g4, 0, none⟩) (es.length + 1) cap4)).heap[k]? = W.heap[k]? := fun k hk hS hl =>
    (Below.heap_setCell _ _ _ _ hS).trans ((hgrow.block k (by simp; omega) hl).trans (hba.block k hk))
  have hgS : g4 ≠ S := fun e => by
    rcases hat with h | h
    · exact hst.far (by rw [h, e])
    · omega
  refine ⟨⟨?_, ?_, fun e hm => ?_⟩, hgrow.os.trans hb6.os, hgrow.tape.trans hb6.tape, hgrow.output.trans hb6.output, by simp [World.setCell]; omega, hkeep, ?_⟩
  · exact setK hs4 1 _
  · rw [flatN_snoc, List.length_append, List.length_singleton]
    refine ownsRow_heap hown fun k hk => Below.heap_setCell _ _ _ _ ?_
    have : k = g4 := by simpa [Value.ownBlock] using hk.symm
    subst this
    exact hgS
  · rcases List.mem_append.1 hm with hm | hm
    · exact (hst.2.2 e hm).keep fun k cur hk => hkeep k (Array.getElem?_eq_some_iff.1 hk).1 (hst.ints hk).1 (hst.ints hk).2
    · have : e = e0 := by simpa using hm
      subst this
      exact ⟨⟨by rw [he]; exact Nat.zero_le _, by rw [hcap]; exact Nat.zero_le _, .inl he⟩, fun _ => ⟨hea, hcap⟩, fun h => absurd he h⟩
  · rcases hat with h | h
    · exact .inl (by rw [h]; rfl)
    · refine .inr fun k hk => ?_
      have : k = g4 := by simpa [Value.ownBlock] using hk.symm
      omega
/-- Kids that lie apart from a row. -/
def KidB (es : List NE) (u : Value) : Prop := ∀ e ∈ es, e.x.kids ≠ [] → ∀ kb, e.a = some ⟨kb, 0, none⟩ → some kb ≠ u.ownBlock
/-- A number is put behind a row of the call's own. -/
theorem StAt.grown {W0 W w8 : World} {B S n : Nat} {v lv0 lv u : Value} {es : List NE} {xs : List Value} {o : Obj} (hst : StAt W B S v lv es) (hf : StF W0 W S lv0 lv) (hr : W.ownsRow B 3 1 u n xs) (hu : ∀ k, u.ownBlock = some k → W0.heap.size ≤ k) (hkb : KidB es u) (hgrow : (W.alloc o).grownBy w8 u.ownBlock) : StAt w8 B S v lv es ∧ StF W0 w8 S lv0 lv := by
  have hz := hgrow.size
  simp only [World.size_alloc] at hz
  have hkeep : ∀ k, k < W.heap.size → some k ≠ u.ownBlock → w8.heap[k]? = W.heap[k]? := fun k hk hl => (hgrow.block k (by simp; omega) hl).trans (Below.heap_alloc _ _ _ hk)
  have hSl : S < W.heap.size := (Array.getElem?_eq_some_iff.1 hst.1).1
  have hur : ∀ k, u.ownBlock = some k → ∃ cur, W.heap[k]? = some (Obj.cells cur 3 (0, 0)) := fun k hk => by
    rcases hr.2 with ⟨h0, _⟩ | ⟨g, cap, cur, h0, _, hh, _⟩
    · rw [h0] at hk; cases hk
    · rw [h0] at hk
      have e : g = k := by simpa [Value.ownBlock] using hk
      subst e
      exact ⟨cur, hh⟩
  refine ⟨⟨(hkeep S hSl (fun e => ?_)).trans hst.1, ownsRow_heap hst.2.1 fun k hk => hkeep k (hst.2.1.lt k hk).2 (fun e => ?_), fun e hm => ?_⟩, ?_⟩
  · obtain ⟨cur, h⟩ := hur S e.symm
    exact (hst.ints h).1 rfl
  · obtain ⟨cur, h⟩ := hur k e.symm
    exact (hst.ints h).2 hk.symm
  · obtain ⟨⟨k1, k2, k3⟩, k4, k5⟩ := hst.2.2 e hm
    refine ⟨⟨k1, k2, ?_⟩, k4, fun hks => ownsRow_heap (k5 hks) fun g hg => hkeep g ((k5 hks).lt g hg).2 (hkb e hm hks g ?_)⟩
    · by_cases hks : e.x.kids = []
      · exact .inl hks
      · rcases k3 with k3 | ⟨kb, cur, ha, hkb', hkh, hkc⟩
        · exact .inl k3
        · exact .inr ⟨kb, cur, ha, hkb', (hkeep kb (Array.getElem?_eq_some_iff.1 hkh).1 (hkb e hm hks kb ha)).trans hkh, hkc⟩
    · rcases (k5 hks).2 with ⟨h0, _⟩ | ⟨g', c', cur, h0, _⟩
      · rw [h0] at hg; cases hg
      · injection h0 with h1 _ _
        rw [h1] at hg
        have e1 : g' = g := by simpa [Value.ownBlock] using hg
        rw [h1, e1]
  · obtain ⟨a1, a2, a3, a4, a5, a6⟩ := hf
    refine ⟨hgrow.os.trans a1, hgrow.tape.trans a2, hgrow.output.trans a3, by omega, fun k hk hS hl => (hkeep k (by omega) (fun e => ?_)).trans (a5 k hk hS hl), a6⟩
    have := hu k e.symm
    omega
theorem flatN_mid (es : List NE) (e0 : NE) (body : List NE) (u : Value) : (flatN (es ++ e0 :: body)).set (es.length * 5 + 3) u = flatN es ++ (.int .i64 e0.x.kind :: .string e0.x.text :: .int .i64 e0.x.num :: u :: .int .i64 e0.x.at' :: flatN body) := by
  rw [flatN_append, List.set_append_right _ _ (by rw [flatN_len]; omega), flatN_len]
  congr 1
  have : es.length * 5 + 3 - es.length * 5 = 3 := by omega
  rw [this]
  rfl
/-- A node's kids are set. -/
theorem StAt.kids {W0 W : World} {B S g N cap c : Nat} {v lv0 : Value} {ua : Option Addr} {es body : List NE} {yk yn ya : Int} {yt : ByteArray} {idx : List Int} (hst : StAt W B S v (.slice (some ⟨g, 0, none⟩) N cap) (es ++ ⟨⟨yk, yt, yn, [], ya⟩, none, 0⟩ :: body)) (hN : (es ++ (⟨⟨yk, yt, yn, [], ya⟩, none, 0⟩ : NE) :: body).length = N) (hr : W.ownsRow B 3 1 (.slice ua idx.length c) idx.length (kvs idx)) (hua : idx = [] → ua = none ∧ c = 0) (hf : StF W0 W S lv0 (.slice (some ⟨g, 0, none⟩) N cap)) :
    StAt (W.setCell ⟨g, es.length * 5 + 3, none⟩ (.slice ua idx.length c)) B S v (.slice (some ⟨g, 0, none⟩) N cap) (es ++ ⟨⟨yk, yt, yn, idx, ya⟩, ua, c⟩ :: body) ∧ StF W0 (W.setCell ⟨g, es.length * 5 + 3, none⟩ (.slice ua idx.length c)) S lv0 (.slice (some ⟨g, 0, none⟩) N cap) := by
  have hgS : g ≠ S := fun e => hst.far (by rw [← e]; rfl)
  have hkeep : ∀ k, k ≠ g → (W.setCell ⟨g, es.length * 5 + 3, none⟩ (.slice ua idx.length c)).heap[k]? = W.heap[k]? := fun k hk => Below.heap_setCell _ _ _ _ hk
  have hi3 : ∀ (k : Nat) (cur : Array Value), W.heap[k]? = some (Obj.cells cur 3 (0, 0)) → (W.setCell ⟨g, es.length * 5 + 3, none⟩ (.slice ua idx.length c)).heap[k]? = W.heap[k]? := fun k cur hk => hkeep k (fun e => (hst.ints hk).2 (by rw [e]; rfl))
  have hlen : (es ++ (⟨⟨yk, yt, yn, idx, ya⟩, ua, c⟩ : NE) :: body).length = (es ++ (⟨⟨yk, yt, yn, [], ya⟩, none, 0⟩ : NE) :: body).length := by simp
  refine ⟨⟨(hkeep S (Ne.symm hgS)).trans hst.1, ?_, fun e hm => ?_⟩, ?_⟩
  · have h := hst.2.1
    rw [hN] at h
    have h2 := (h.stored (es.length * 5 + 3) (.slice ua idx.length c)).1
    rw [flatN_mid] at h2
    rw [hlen, hN]
    have e2 : flatN (es ++ (⟨⟨yk, yt, yn, idx, ya⟩, ua, c⟩ : NE) :: body) = flatN es ++ (.int .i64 yk :: .string yt :: .int .i64 yn :: .slice ua idx.length c :: .int .i64 ya :: flatN body) := by rw [flatN_append]; rfl
    rw [e2]
    exact h2
  · rcases List.mem_append.1 hm with hm | hm
    · exact (hst.2.2 e (List.mem_append_left _ hm)).keep hi3
    · rcases List.mem_cons.1 hm with rfl | hm
      · have hcp := own_cap hr
        refine ⟨⟨hcp.1, hcp.2, ?_⟩, hua, fun _ => ownsRow_heap hr fun k hk => ?_⟩
        rotate_left
        · rcases hr.2 with ⟨h0, _⟩ | ⟨g', cap', cur, h0, hb', hh, _⟩
          · rw [h0] at hk; cases hk
          · rw [h0] at hk
            have e1 : g' = k := by simpa [Value.ownBlock] using hk
            subst e1
            exact hi3 g' cur hh
        rcases hr.2 with ⟨_, h0⟩ | ⟨g', cap', cur, h0, hb', hh, _, _, _, ht⟩
        · exact .inl (List.length_eq_zero_iff.1 h0)
        · injection h0 with h1 _ _
          refine .inr ⟨g', cur, h1, hb', (hi3 g' cur hh).trans hh, fun j hj => ?_⟩
          have hj' : j < idx.length := hj
          have e1 : (cur.toList.take (idx.length * 1))[j]? = cur[j]? := by rw [List.getElem?_take, if_pos (by omega)]; simp
          rw [← e1, ht]
          simp [kvs, List.getElem?_map, List.getD_eq_getElem?_getD, List.getElem?_eq_getElem hj']
      · exact (hst.2.2 e (List.mem_append_right _ (List.mem_cons_of_mem _ hm))).keep hi3
  · obtain ⟨a1, a2, a3, a4, a5, a6⟩ := hf
    refine ⟨a1, a2, a3, by simp [World.setCell]; omega, fun k hk hS hl => (hkeep k (fun e => ?_)).trans (a5 k hk hS hl), a6⟩
    rcases a6 with h | h
    · exact hl (by rw [← h, e]; rfl)
    · have := h g rfl
      omega
end Go.Proofs.YtnnpkomedpjlcaaGreatDoor

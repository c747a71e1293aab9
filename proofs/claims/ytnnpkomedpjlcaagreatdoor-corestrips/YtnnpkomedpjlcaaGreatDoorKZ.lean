/- core.Strip of the tree that the law knows; shucklaw5.known answers true. -/
import Derived.BigQuiet
import Derived.Deep.AppendLies
import Derived.Deep.DrawnRows
import Derived.Deep.RegionHeld3
import Derived.Deep.RegionLaw
import Derived.LoopN
import Derived.Test.YtnnpkomedpjlcaaGreatDoorK7
import Derived.Test.YtnnpkomedpjlcaaGreatDoorKX
import Derived.Test.YtnnpkomedpjlcaaGreatDoorKY
import Derived.Test.YtnnpkomedpjlcaaGreatDoorM1
import Derived.Test.YtnnpkomedpjlcaaGreatDoorM4
import Derived.Test.YtnnpkomedpjlcaaGreatDoorTLc
/- core.Strip of the tree that the law knows: a Bang about a Name. -/
namespace Go.Proofs.YtnnpkomedpjlcaaGreatDoor
set_option linter.unusedSimpArgs false
set_option linter.unusedVariables false
open Go.RowKit Go.Shelf

theorem below5 {W w : World} {N R : Nat} (h : Below N W w) (y0 y1 y2 y3 y4 : Value) (hR : N ≤ R := by first | exact Nat.le_refl _ | omega) :
    Below N W (((((w.setCell ⟨R, 0, none⟩ y0).setCell ⟨R, 1, none⟩ y1).setCell ⟨R, 2, none⟩ y2).setCell ⟨R, 3, none⟩ y3).setCell ⟨R, 4, none⟩ y4) :=
  ((((h.setCell (p := ⟨R, 0, none⟩) hR _).setCell (p := ⟨R, 1, none⟩) hR _).setCell (p := ⟨R, 2, none⟩) hR _).setCell (p := ⟨R, 3, none⟩) hR _).setCell (p := ⟨R, 4, none⟩) hR _

set_option maxRecDepth 100000 in
set_option maxHeartbeats 4000000 in
theorem rule34 (W : World) : Calls Tryz.prog 26 #[.int .i64 34] W fun e w' => e = .returned (.func (.func 46) #[] #[]) ∧ w' = W := by
  have HT := hide (coreType_any W 34)
  go_enter Tryz.func26, Tryz.ntmps26
  go_wp2_with (go_at_call 35; refine (unhide HT).mono ?_; rintro e w2 ⟨rfl, rfl⟩)
  go_ret
  exact ⟨rfl, rfl⟩

set_option maxRecDepth 100000 in
set_option maxHeartbeats 4000000 in
theorem alone_name (W : World) (tx : ByteArray) (nm at' : Int) (a : Option Addr) (n c : Nat) (hs : tx.size ≤ 3000) :
    Calls Tryz.prog 42 #[.agg #[.int .i64 17, .string tx, .int .i64 nm, .slice a n c, .int .i64 at']] W fun e w' => e = .returned (.agg #[.int .i64 17, .string tx, .int .i64 nm, .slice none 0 0, .int .i64 at']) ∧ Below W.heap.size W w' := by
  obtain ⟨W1, hW1⟩ : ∃ W1, (W.alloc (.cells #[.int .i64 17, .string tx, .int .i64 nm, .slice a n c, .int .i64 at'] 41)).alloc (.cells #[.int .i64 0, .string ⟨#[]⟩, .int .i64 0, .slice none 0 0, .int .i64 0] 41) = W1 := ⟨_, rfl⟩
  have hB1 : Below W.heap.size W W1 := by rw [← hW1]; exact ((Below.refl _ W).alloc (Nat.le_refl _) _).alloc (by simp) _
  have hz1 : W1.heap.size = W.heap.size + 1 + 1 := by rw [← hW1]; simp
  have hx1 : W1.heap[W.heap.size]? = some (.cells #[.int .i64 17, .string tx, .int .i64 nm, .slice a n c, .int .i64 at'] 41) := by rw [← hW1]; exact rat_a2 W _ _
  have hx2 : W1.heap[W.heap.size + 1]? = some (.cells #[.int .i64 0, .string ⟨#[]⟩, .int .i64 0, .slice none 0 0, .int .i64 0] 41) := by
    rw [← hW1]
    have := World.alloc_heap_new (W.alloc (.cells #[.int .i64 17, .string tx, .int .i64 nm, .slice a n c, .int .i64 at'] 41)) (.cells #[.int .i64 0, .string ⟨#[]⟩, .int .i64 0, .slice none 0 0, .int .i64 0] 41)
    rw [World.size_alloc] at this
    exact this
  have hHS : ∀ w', Below W1.heap.size W1 w' → w'.cell? ⟨W.heap.size, 0, none⟩ = some (.int .i64 17) ∧ w'.cell? ⟨W.heap.size, 1, none⟩ = some (.string tx) ∧ w'.cell? ⟨W.heap.size, 2, none⟩ = some (.int .i64 nm) ∧ w'.cell? ⟨W.heap.size, 4, none⟩ = some (.int .i64 at') := fun w' h => by
    obtain ⟨r0, r1, r2, r3, r4⟩ := rcells5 ((h.block _ (by omega)).trans hx1)
    exact ⟨r0, r1, r2, r4⟩
  have HSS := hide hHS
  have HW1 := hide hW1
  have HX2 := hide hx2
  have HB1 := hide hB1
  have HZ1 := hide hz1
  have t1 : W.heap.size < W1.heap.size := by omega
  have t2 : W.heap.size + 1 < W1.heap.size := by omega
  obtain ⟨c0, c1, c2, c4⟩ := hHS W1 (Below.refl _ _)
  clear hW1 hx1 hx2 hHS hB1 hz1
  go_enter Tryz.func42, Tryz.ntmps42
  go_wp2
  rw [unhide HW1]
  go_region_held3 (fun w' => w'.cell? ⟨W.heap.size, 0, none⟩ = some (.int .i64 17) ∧ w'.cell? ⟨W.heap.size, 1, none⟩ = some (.string tx) ∧ w'.cell? ⟨W.heap.size, 2, none⟩ = some (.int .i64 nm) ∧ w'.cell? ⟨W.heap.size, 4, none⟩ = some (.int .i64 at'))
    (with_reducible first
      | exact unhide HSS _ (Below.refl _ _)
      | exact unhide HSS _ (Below.refl _ _).drew
      | exact unhide HSS _ ((Below.refl _ W1).alloc (Nat.le_refl _) _).drew
      | exact unhide HSS _ ((Below.refl _ W1).drew.alloc (Nat.le_refl _) _)
      | exact unhide HSS _ hb6
      | exact unhide HSS _ (hb6.alloc hb6.size _)
      | exact unhide HSS _ (below5 hb6 _ _ _ _ _ (Nat.le_refl _))
      | exact unhide HSS _ (below5 (hb6.alloc hb6.size _) _ _ _ _ _ hb6.size)
      | assumption)
    ((go_at_call 58; refine (clone43 tx _ (by omega)).mono ?_; rintro e w6 ⟨rfl, hB6⟩; first
      | (have hb6 : Below W1.heap.size W1 w6 := (Below.refl _ W1).drew.trans hB6; clear hB6)
      | (have hb6 : Below W1.heap.size W1 w6 := ((Below.refl _ W1).alloc (Nat.le_refl _) _).drew.trans (hB6.mono (by simp)); have hz6 : w6.heap[W1.heap.size]? = some (.cells #[.int .i64 0, .string ⟨#[]⟩, .int .i64 0, .slice none 0 0, .int .i64 0] 41) := (hB6.block _ (by simp)).trans (World.alloc_heap_new W1 _); have hz5 := hz6; obtain ⟨v0, v1, v2, v3, v4⟩ := rcells5 hz6; have y0 := rfrozen_at hz5 0; have y1 := rfrozen_at hz5 1; have y2 := rfrozen_at hz5 2; have y3 := rfrozen_at hz5 3; have y4 := rfrozen_at hz5 4; have ylt : W1.heap.size < w6.heap.size := (Array.getElem?_eq_some_iff.1 hz5).1; have HZ6 := hide hz5; clear hB6 hz6 hz5)))
  · obtain ⟨w7, hw7⟩ : ∃ w7, w6.alloc (.cells #[.int .i64 17, .string tx, .int .i64 nm, .slice none 0 0, .int .i64 at'] 41) = w7 := ⟨_, rfl⟩
    have hl7 : w7.heap[w6.heap.size]? = some (.cells #[.int .i64 17, .string tx, .int .i64 nm, .slice none 0 0, .int .i64 at'] 41) := by rw [← hw7]; exact World.alloc_heap_new w6 _
    have hb7 : Below W1.heap.size W1 w7 := by rw [← hw7]; exact hb6.alloc hb6.size _
    rw [hw7]
    have hge := hb6.size
    clear hw7 hb6
    generalize w6.heap.size = L at hl7 hge ⊢
    have hN1 : W.heap.size + 1 < w7.heap.size := by have := hb7.size; omega
    have hN0 : W.heap.size < w7.heap.size := by omega
    obtain ⟨b0, b1, b2, b4⟩ := unhide HSS w7 hb7
    obtain ⟨l0, l1, l2, l3, l4⟩ := rcells5 hl7
    have hL : L < w7.heap.size := (Array.getElem?_eq_some_iff.1 hl7).1
    have hx7 := (hb7.block (W.heap.size + 1) t2).trans (unhide HX2)
    obtain ⟨z0, z1, z2, z3, z4⟩ := rcells5 hx7
    have y0 := rfrozen_at hx7 0
    have y1 := rfrozen_at hx7 1
    have y2 := rfrozen_at hx7 2
    have y3 := rfrozen_at hx7 3
    have y4 := rfrozen_at hx7 4
    have HX7 := hide hx7
    have HB7 := hide hb7
    have HT := hide (coreType_any w7 17)
    clear hb7 hl7 hx7 c0 c1 c2 c4
    go_wp2_with (go_at_call 35; refine (unhide HT).mono ?_; rintro e w8 ⟨rfl, hw8⟩; rw [hw8]; clear hw8)
    have h5 := set5 (unhide HX7) (.int .i64 17) (.string tx) (.int .i64 nm) (.slice none 0 0) (.int .i64 at')
    have hB8 : Below W.heap.size W (((((w7.setCell ⟨W.heap.size + 1, 0, none⟩ (.int .i64 17)).setCell ⟨W.heap.size + 1, 1, none⟩ (.string tx)).setCell ⟨W.heap.size + 1, 2, none⟩ (.int .i64 nm)).setCell ⟨W.heap.size + 1, 3, none⟩ (.slice none 0 0)).setCell ⟨W.heap.size + 1, 4, none⟩ (.int .i64 at')) := below5 ((unhide HB1).trans ((unhide HB7).mono (by omega))) _ _ _ _ _ (by omega)
    obtain ⟨W9, hW9⟩ : ∃ W9, ((((w7.setCell ⟨W.heap.size + 1, 0, none⟩ (.int .i64 17)).setCell ⟨W.heap.size + 1, 1, none⟩ (.string tx)).setCell ⟨W.heap.size + 1, 2, none⟩ (.int .i64 nm)).setCell ⟨W.heap.size + 1, 3, none⟩ (.slice none 0 0)).setCell ⟨W.heap.size + 1, 4, none⟩ (.int .i64 at') = W9 := ⟨_, rfl⟩
    rw [hW9] at h5 hB8 ⊢
    obtain ⟨u0, u1, u2, u3, u4⟩ := rcells5 h5
    exact bodyPost_ret (v := .agg #[.int .i64 17, .string tx, .int .i64 nm, .slice none 0 0, .int .i64 at']) (by simp [results, Tryz.results42, go_sem, u0, u1, u2, u3, u4]) rfl ⟨rfl, hB8⟩
  · have hl7 := set5 (unhide HZ6) (.int .i64 17) (.string tx) (.int .i64 nm) (.slice none 0 0) (.int .i64 at')
    have hb7 := below5 (R := W1.heap.size) hb6 (.int .i64 17) (.string tx) (.int .i64 nm) (.slice none 0 0) (.int .i64 at') (Nat.le_refl _)
    obtain ⟨w7, hw7⟩ : ∃ w7, ((((w6.setCell ⟨W1.heap.size, 0, none⟩ (.int .i64 17)).setCell ⟨W1.heap.size, 1, none⟩ (.string tx)).setCell ⟨W1.heap.size, 2, none⟩ (.int .i64 nm)).setCell ⟨W1.heap.size, 3, none⟩ (.slice none 0 0)).setCell ⟨W1.heap.size, 4, none⟩ (.int .i64 at') = w7 := ⟨_, rfl⟩
    rw [hw7] at hl7 hb7 ⊢
    clear hw7 hb6 v0 v1 v2 v3 v4 y0 y1 y2 y3 y4 ylt
    obtain ⟨L, hLe⟩ : ∃ L, W1.heap.size = L := ⟨_, rfl⟩
    rw [hLe] at hl7
    have HLE := hide hLe
    have hge : W1.heap.size ≤ L := Nat.le_of_eq hLe
    simp only [hLe]
    clear hLe
    have hN1 : W.heap.size + 1 < w7.heap.size := by have := hb7.size; omega
    have hN0 : W.heap.size < w7.heap.size := by omega
    obtain ⟨b0, b1, b2, b4⟩ := unhide HSS w7 hb7
    obtain ⟨l0, l1, l2, l3, l4⟩ := rcells5 hl7
    have hL : L < w7.heap.size := (Array.getElem?_eq_some_iff.1 hl7).1
    have hx7 := (hb7.block (W.heap.size + 1) t2).trans (unhide HX2)
    obtain ⟨z0, z1, z2, z3, z4⟩ := rcells5 hx7
    have y0 := rfrozen_at hx7 0
    have y1 := rfrozen_at hx7 1
    have y2 := rfrozen_at hx7 2
    have y3 := rfrozen_at hx7 3
    have y4 := rfrozen_at hx7 4
    have HX7 := hide hx7
    have HB7 := hide hb7
    have HT := hide (coreType_any w7 17)
    clear hb7 hl7 hx7 c0 c1 c2 c4
    go_wp2_with (go_at_call 35; refine (unhide HT).mono ?_; rintro e w8 ⟨rfl, hw8⟩; rw [hw8]; clear hw8)
    have h5 := set5 (unhide HX7) (.int .i64 17) (.string tx) (.int .i64 nm) (.slice none 0 0) (.int .i64 at')
    have hB8 : Below W.heap.size W (((((w7.setCell ⟨W.heap.size + 1, 0, none⟩ (.int .i64 17)).setCell ⟨W.heap.size + 1, 1, none⟩ (.string tx)).setCell ⟨W.heap.size + 1, 2, none⟩ (.int .i64 nm)).setCell ⟨W.heap.size + 1, 3, none⟩ (.slice none 0 0)).setCell ⟨W.heap.size + 1, 4, none⟩ (.int .i64 at')) := below5 ((unhide HB1).trans ((unhide HB7).mono (by omega))) _ _ _ _ _ (by omega)
    obtain ⟨W9, hW9⟩ : ∃ W9, ((((w7.setCell ⟨W.heap.size + 1, 0, none⟩ (.int .i64 17)).setCell ⟨W.heap.size + 1, 1, none⟩ (.string tx)).setCell ⟨W.heap.size + 1, 2, none⟩ (.int .i64 nm)).setCell ⟨W.heap.size + 1, 3, none⟩ (.slice none 0 0)).setCell ⟨W.heap.size + 1, 4, none⟩ (.int .i64 at') = W9 := ⟨_, rfl⟩
    rw [hW9] at h5 hB8 ⊢
    obtain ⟨u0, u1, u2, u3, u4⟩ := rcells5 h5
    exact bodyPost_ret (v := .agg #[.int .i64 17, .string tx, .int .i64 nm, .slice none 0 0, .int .i64 at']) (by simp [results, Tryz.results42, go_sem, u0, u1, u2, u3, u4]) rfl ⟨rfl, hB8⟩
end Go.Proofs.YtnnpkomedpjlcaaGreatDoor

/- core.Strip of the tree that the law knows: its methods. -/
namespace Go.Proofs.YtnnpkomedpjlcaaGreatDoor
set_option linter.unusedSimpArgs false
set_option linter.unusedVariables false
open Go.RowKit Go.Shelf

/-- The known tree's cells. -/
structure KnAt (W : World) (v : Value) (b : Nat) (o cap : Nat) (ka ka' : Option Addr) (kc kc' : Nat) (kb ko : Nat) : Prop where
  hv : v = .slice (some ⟨b, o, none⟩) 2 cap
  hb : b < W.heap.size
  n0 : W.cell? ⟨b, o, none⟩ = some (.int .i64 34)
  k0 : W.cell? ⟨b, o + 3, none⟩ = some (.slice (some ⟨kb, ko, none⟩) 1 kc)
  hk : kb < W.heap.size
  kk : W.cell? ⟨kb, ko, none⟩ = some (.int .i64 1)
  c0 : W.cell? ⟨b, o + 5, none⟩ = some (.int .i64 17)
  c1 : W.cell? ⟨b, o + 6, none⟩ = some (.string ⟨#[120]⟩)
  c2 : W.cell? ⟨b, o + 7, none⟩ = some (.int .i64 0)
  c3 : W.cell? ⟨b, o + 8, none⟩ = some (.slice ka' 0 kc')
  c4 : W.cell? ⟨b, o + 9, none⟩ = some (.int .i64 0)

set_option maxRecDepth 100000 in
set_option maxHeartbeats 4000000 in
theorem within_K (W : World) (S b o cap kb ko kc kc' : Nat) (ka' : Option Addr) (hK : KnAt W (.slice (some ⟨b, o, none⟩) 2 cap) b o cap (some ⟨kb, ko, none⟩) ka' kc kc' kb ko) (hS : W.cell? ⟨S, 0, none⟩ = some (.slice (some ⟨b, o, none⟩) 2 cap)) (hSl : S < W.heap.size) :
    Calls Tryz.prog 41 #[.pointer (some ⟨S, 0, none⟩), .int .i64 0] W fun e w' => e = .returned (.int .i64 1) ∧ w' = W := by
  obtain ⟨_, hb, n0, k0, hk, kk, c0, c1, c2, c3, c4⟩ := hK
  go_enter Tryz.func41, Tryz.ntmps41
  go_wp2
  go_loopw [1] (fun t wr => ∃ i : Nat, i ≤ 1 ∧ t = .int .i64 (i : Int) ∧ wr = W) (fun t _ => 1 - (intOf t).toNat)
  case atStart => exact ⟨0, by omega, rfl, rfl⟩
  case round =>
    obtain ⟨i, hi, rfl, rfl⟩ := hrel
    by_cases h0 : i = 0
    · subst h0
      go_wp2
      exact ⟨⟨1, by omega, rfl, trivial⟩, by simp [intOf]⟩
    · obtain rfl : i = 1 := by omega
      go_wp2
      go_ret
      exact ⟨rfl, rfl⟩

set_option maxRecDepth 100000 in
set_option maxHeartbeats 4000000 in
theorem strip_K (W : World) (B S b o cap kb ko kc kc' : Nat) (ka' : Option Addr) (hK : KnAt W (.slice (some ⟨b, o, none⟩) 2 cap) b o cap (some ⟨kb, ko, none⟩) ka' kc kc' kb ko) (hS0 : W.heap[S]? = some (.cells #[.slice (some ⟨b, o, none⟩) 2 cap, .slice none 0 0] 50)) (hB : B ≤ S) (hbS : b ≠ S) :
    Calls Tryz.prog 25 #[.pointer (some ⟨S, 0, none⟩), .int .i64 0, .func (.func 46) #[] #[]] W fun e w' => e = .returned (.int .i64 0) ∧ ∃ g c, w'.heap[S]? = some (.cells #[.slice (some ⟨b, o, none⟩) 2 cap, .slice (some ⟨g, 0, none⟩) 1 c] 50) ∧ w'.cell? ⟨g, 1, none⟩ = some (.string ⟨#[120]⟩) ∧ g < w'.heap.size ∧ 1 ≤ c ∧ W.heap.size ≤ g ∧ Below B W w' := by
  obtain ⟨i0, hi, hz0, hz1, hz2⟩ := info_parts infoNode
  have hSl : S < W.heap.size := (Array.getElem?_eq_some_iff.1 hS0).1
  have s0 : W.cell? ⟨S, 0, none⟩ = some (.slice (some ⟨b, o, none⟩) 2 cap) := by rw [Lib.cell_of_heap hS0]; rfl
  have s1 : W.cell? ⟨S, 1, none⟩ = some (.slice none 0 0) := by rw [Lib.cell_of_heap hS0]; rfl
  have HWK := hide (within_K W S b o cap kb ko kc kc' ka' hK s0 hSl)
  obtain ⟨_, hb, n0, k0, hk, kk, c0, c1, c2, c3, c4⟩ := hK
  have hSS : ∀ w', Below W.heap.size W w' → w'.cell? ⟨S, 0, none⟩ = some (.slice (some ⟨b, o, none⟩) 2 cap) ∧ w'.cell? ⟨S, 1, none⟩ = some (.slice none 0 0) ∧ w'.cell? ⟨b, o + 5, none⟩ = some (.int .i64 17) ∧ w'.cell? ⟨b, o + 6, none⟩ = some (.string ⟨#[120]⟩) ∧ w'.cell? ⟨b, o + 7, none⟩ = some (.int .i64 0) ∧ w'.cell? ⟨b, o + 8, none⟩ = some (.slice ka' 0 kc') ∧ w'.cell? ⟨b, o + 9, none⟩ = some (.int .i64 0) := fun w' h =>
    ⟨(h.cell (p := ⟨S, 0, none⟩) hSl).trans s0, (h.cell (p := ⟨S, 1, none⟩) hSl).trans s1, (h.cell (p := ⟨b, o + 5, none⟩) hb).trans c0, (h.cell (p := ⟨b, o + 6, none⟩) hb).trans c1, (h.cell (p := ⟨b, o + 7, none⟩) hb).trans c2, (h.cell (p := ⟨b, o + 8, none⟩) hb).trans c3, (h.cell (p := ⟨b, o + 9, none⟩) hb).trans c4⟩
  have HSS := hide hSS
  have HS0 := hide hS0
  have fS : W.frozen? ⟨S, 1, none⟩ = false := rfrozen_at hS0 1
  have HAL : Hid (∀ w', Calls Tryz.prog 42 #[.agg #[.int .i64 17, .string ⟨#[120]⟩, .int .i64 0, .slice ka' 0 kc', .int .i64 0]] w' fun e w'' => e = .returned (.agg #[.int .i64 17, .string ⟨#[120]⟩, .int .i64 0, .slice none 0 0, .int .i64 0]) ∧ Below w'.heap.size w' w'') := fun w' => alone_name w' _ _ _ _ _ _ (by decide)
  clear hSS hS0
  go_enter Tryz.func25, Tryz.ntmps25
  go_wp2_with (go_at_call 41; refine (unhide HWK).mono ?_; rintro e w1 ⟨rfl, hw1⟩; rw [hw1]; clear hw1)
  go_region_law (first
    | (refine step_append_lies _ (by rfl) _ _ _ (by rfl) W.heap.size 41 i0 _ 5 64 Tryz.underlying22 hi hz0 hz1 hz2 rfl (by omega) _ 0 [] (by rfl) (World.ownsRow_nil _ _ _ _) ⟨_, 0, none⟩ 1 1 (cellN ⟨⟨17, ⟨#[120]⟩, 0, [], 0⟩, none, 0⟩) (by rfl) (by rfl) (World.news_of_block (cs := #[.int .i64 17, .string ⟨#[120]⟩, .int .i64 0, .slice none 0 0, .int .i64 0]) (t := 41) (fr := (0, 0)) (World.alloc_heap_new _ _)) (by intro u hu; simp [cellN] at hu; rcases hu with rfl | rfl | rfl | rfl | rfl <;> rfl) (by omega) (by unfold maxLen; omega) (by omega) (by have := hb6.size; simp; omega) _ rfl ?_; intro g4 cap4 w4 hown4 hgrow4 hat4 hlt4; have hcp4 := (own_cap hown4).1; have hb4 : Below W.heap.size W w4 := (hb6.alloc hb6.size _).grown hgrow4 (by have := hb6.size; simp; omega) (fun k hk => by simp [Value.ownBlock] at hk); have fz4 : w4.frozen? ⟨S, 1, none⟩ = false := frozen_below hb4 hSl fS; have sl4 : S < w4.heap.size := (by have := hb4.size; omega); have cz4 := (unhide HSS w4 hb4).2.1)
    | (go_simp; go_at_call 42; refine (unhide HAL _).mono ?_; rintro e w6 ⟨rfl, hB6⟩; have hb6 : Below W.heap.size W w6 := (Below.refl _ W).drew.trans hB6; obtain ⟨q60, q61, q62, q63, q64, q65, q66⟩ := unhide HSS w6 hb6; have sl6 : S < w6.heap.size := (by have := hb6.size; omega); have bl6 : b < w6.heap.size := (by have := hb6.size; omega); clear hB6))
  all_goals (
    have hg4 := hown4.lt g4 rfl
    have hS4 : w4.heap[S]? = some (.cells #[.slice (some ⟨b, o, none⟩) 2 cap, .slice none 0 0] 50) := (hb4.block S hSl).trans (unhide HS0)
    obtain ⟨W5, hW5⟩ : ∃ W5, w4.setCell ⟨S, 1, none⟩ (.slice (some ⟨g4, 0, none⟩) 1 cap4) = W5 := ⟨_, rfl⟩
    have hS5 : W5.heap[S]? = some (.cells #[.slice (some ⟨b, o, none⟩) 2 cap, .slice (some ⟨g4, 0, none⟩) 1 cap4] 50) := by rw [← hW5]; exact setK hS4 1 _
    have hk5 : ∀ k, k ≠ S → W5.heap[k]? = w4.heap[k]? := fun k hk => by rw [← hW5]; exact Below.heap_setCell _ _ _ _ hk
    have hz5 : W5.heap.size = w4.heap.size := by rw [← hW5]; simp [World.setCell]
    have hB5 : Below B W W5 := by rw [← hW5]; exact (hb4.mono (by omega)).setCell (p := ⟨S, 1, none⟩) hB _
    have hown5 : W5.ownsRow W.heap.size 41 5 (.slice (some ⟨g4, 0, none⟩) 1 cap4) 1 (cellN ⟨⟨17, ⟨#[120]⟩, 0, [], 0⟩, none, 0⟩) := ownsRow_heap hown4 (fun k hk => hk5 k (by have : k = g4 := (by simpa [Value.ownBlock] using hk.symm); omega))
    have a0 : W5.cell? ⟨S, 0, none⟩ = some (.slice (some ⟨b, o, none⟩) 2 cap) := by rw [Lib.cell_of_heap hS5]; rfl
    have a1 : W5.cell? ⟨S, 1, none⟩ = some (.slice (some ⟨g4, 0, none⟩) 1 cap4) := by rw [Lib.cell_of_heap hS5]; rfl
    have hcb : W5.cell? ⟨b, o + 8, none⟩ = some (.slice ka' 0 kc') := by
      refine Eq.trans ?_ (unhide HSS w4 hb4).2.2.2.2.2.1
      unfold World.cell?
      rw [show W5.heap[(⟨b, o + 8, none⟩ : Addr).block]? = w4.heap[(⟨b, o + 8, none⟩ : Addr).block]? from hk5 b hbS]
    have g3 : W5.cell? ⟨g4, 3, none⟩ = some (.slice none 0 0) := (hown5.cellAt 3 (by omega)).trans rfl
    have g3f : W5.frozen? ⟨g4, 3, none⟩ = false := hown5.frozenAt 3
    have ls : S < W5.heap.size := by omega
    have lg : g4 < W5.heap.size := by omega
    have lb : b < W5.heap.size := by have := hb4.size; omega
    have HE : Hid (∃ g c, (W5.setCell ⟨g4, 3, none⟩ (.slice none 0 0)).heap[S]? = some (.cells #[.slice (some ⟨b, o, none⟩) 2 cap, .slice (some ⟨g, 0, none⟩) 1 c] 50) ∧ (W5.setCell ⟨g4, 3, none⟩ (.slice none 0 0)).cell? ⟨g, 1, none⟩ = some (.string ⟨#[120]⟩) ∧ g < (W5.setCell ⟨g4, 3, none⟩ (.slice none 0 0)).heap.size ∧ 1 ≤ c ∧ W.heap.size ≤ g ∧ Below B W (W5.setCell ⟨g4, 3, none⟩ (.slice none 0 0))) :=
      ⟨g4, cap4, (Below.heap_setCell _ _ _ _ (by show S ≠ g4; omega)).trans hS5, ((hown5.stored 3 (.slice none 0 0)).1.cellAt 1 (by omega)).trans rfl, by simp [World.setCell]; omega, by omega, hg4.1, hB5.setCell (p := ⟨g4, 3, none⟩) (by show B ≤ g4; omega) _⟩
    rw [hW5]
    clear hW5 hk5 hown4 hgrow4 hat4 hlt4 hb4 fz4 sl4 cz4 hown5 hS5 hS4 hz5 hB5 hg4
    go_wp2
    go_loopw [8, 45] (fun t8 t wr => t8 = .slice none 0 0 ∧ t = .int .i64 0 ∧ wr = W5) (fun _ _ _ => 0)
    case atStart => exact ⟨rfl, rfl, rfl⟩
    case round =>
      obtain ⟨rfl, rfl, rfl⟩ := hrel
      go_wp2
      go_ret
      exact ⟨rfl, unhide HE⟩)
end Go.Proofs.YtnnpkomedpjlcaaGreatDoor

/- shucklaw5.known answers true, in whatever memory. -/
namespace Go.Proofs.YtnnpkomedpjlcaaGreatDoor
set_option linter.unusedSimpArgs false
set_option linter.unusedVariables false
open Go.RowKit Go.Shelf

theorem knAt_of {W : World} {M : Nat} {v : Value} (h : Nodes W M v lK) (hM : M ≤ W.heap.size) : ∃ b o cap kb ko kc kc' ka', v = .slice (some ⟨b, o, none⟩) 2 cap ∧ KnAt W (.slice (some ⟨b, o, none⟩) 2 cap) b o cap (some ⟨kb, ko, none⟩) ka' kc kc' kb ko ∧ b < M ∧ kb < M ∧ 2 ≤ cap := by
  obtain ⟨b, o, cap, ka, kc, rfl, hc1, _, hb, d0, d1, d2, d3, d4, _, _, hK⟩ := h.at (n := 0) (by decide)
  obtain ⟨b2, o2, cap2, ka', kc', hv, _, _, _, e0, e1, e2, e3, e4, _, _, _⟩ := h.at (n := 1) (by decide)
  cases hv
  rcases hK with hK | ⟨kb, ko, rfl, hkb, hk⟩
  · exact absurd hK (by decide)
  have hk0 := hk 0 (by decide)
  exact ⟨b, o, cap, kb, ko, kc, kc', ka', rfl, ⟨rfl, by omega, d0, d3, by omega, hk0, e0, e1, e2, e3, e4⟩, hb, hkb, hc1⟩
theorem KnAt.keep {W W' : World} {v : Value} {b o cap : Nat} {ka ka' : Option Addr} {kc kc' kb ko N : Nat} (h : KnAt W v b o cap ka ka' kc kc' kb ko) (hB : Below N W W') (h1 : b < N) (h2 : kb < N) : KnAt W' v b o cap ka ka' kc kc' kb ko := by
  obtain ⟨hv, hb, n0, k0, hk, kk, c0, c1, c2, c3, c4⟩ := h
  have hs := hB.size
  exact ⟨hv, by omega, (hB.cell (p := ⟨b, o, none⟩) h1).trans n0, (hB.cell (p := ⟨b, o + 3, none⟩) h1).trans k0, by omega, (hB.cell (p := ⟨kb, ko, none⟩) h2).trans kk, (hB.cell (p := ⟨b, o + 5, none⟩) h1).trans c0, (hB.cell (p := ⟨b, o + 6, none⟩) h1).trans c1, (hB.cell (p := ⟨b, o + 7, none⟩) h1).trans c2, (hB.cell (p := ⟨b, o + 8, none⟩) h1).trans c3, (hB.cell (p := ⟨b, o + 9, none⟩) h1).trans c4⟩
theorem ccK : ccP lK = (0, 12) := by
  have h := ccP_at (l := lK) (n := 0) (by rw [chkK]) (by decide) (fun j hj => by omega) (by rfl)
  exact h

set_option maxRecDepth 100000 in
set_option maxHeartbeats 4000000 in
theorem expr34 (W : World) : Calls Tryz.prog 24 #[.int .i64 34] W fun e w' => e = .returned (.bool true) ∧ w' = W := by
  go_enter Tryz.func24, Tryz.ntmps24
  go_wp2
  go_ret
  exact ⟨rfl, rfl⟩

set_option maxRecDepth 100000 in
set_option maxHeartbeats 4000000 in
theorem stripAll_K (W : World) (M : Nat) (v : Value) (hN : Nodes W M v lK) (hM : M ≤ W.heap.size) :
    Calls Tryz.prog 12 #[.agg #[v]] W fun e w' => ∃ g c, e = .returned (.tuple #[.agg #[.slice (some ⟨g, 0, none⟩) 1 c], .int .i64 0]) ∧ w'.cell? ⟨g, 1, none⟩ = some (.string ⟨#[120]⟩) ∧ g < w'.heap.size ∧ 1 ≤ c ∧ Below W.heap.size W w' := by
  obtain ⟨b, o, cap, kb, ko, kc, kc', ka', rfl, hK, hb, hkb, hcap⟩ := knAt_of hN hM
  obtain ⟨W1, hW1⟩ : ∃ W1, (W.alloc (.cells #[.slice (some ⟨b, o, none⟩) 2 cap] 24)).alloc (.cells #[.slice none 0 0] 24) = W1 := ⟨_, rfl⟩
  have hB1 : Below W.heap.size W W1 := by rw [← hW1]; exact ((Below.refl _ W).alloc (Nat.le_refl _) _).alloc (by simp) _
  have hz1 : W1.heap.size = W.heap.size + 1 + 1 := by rw [← hW1]; simp
  have hx1 : W1.heap[W.heap.size]? = some (.cells #[.slice (some ⟨b, o, none⟩) 2 cap] 24) := by rw [← hW1]; exact rat_a2 W _ _
  have hx2 : W1.heap[W.heap.size + 1]? = some (.cells #[.slice none 0 0] 24) := by
    rw [← hW1]
    have := World.alloc_heap_new (W.alloc (.cells #[.slice (some ⟨b, o, none⟩) 2 cap] 24)) (.cells #[.slice none 0 0] 24)
    rw [World.size_alloc] at this
    exact this
  have HC := hide (check_ok W1 M _ lK (hN.keep hB1 hM) (Nat.le_trans hM hB1.size))
  rw [chkK] at HC
  have HBX : Hid (∀ w', Below W1.heap.size W1 w' → Below W.heap.size W w' ∧ w'.cell? ⟨W.heap.size, 0, none⟩ = some (.slice (some ⟨b, o, none⟩) 2 cap) ∧ w'.cell? ⟨W.heap.size + 1, 0, none⟩ = some (.slice none 0 0) ∧ w'.frozen? ⟨W.heap.size + 1, 0, none⟩ = false ∧ W.heap.size < w'.heap.size ∧ W.heap.size + 1 < w'.heap.size ∧ KnAt w' (.slice (some ⟨b, o, none⟩) 2 cap) b o cap (some ⟨kb, ko, none⟩) ka' kc kc' kb ko) := fun w' h => by
    have hs := h.size
    have hw := hB1.trans (h.mono (by omega))
    have y1 := (h.block W.heap.size (by omega)).trans hx1
    have y2 := (h.block (W.heap.size + 1) (by omega)).trans hx2
    exact ⟨hw, by rw [Lib.cell_of_heap y1]; rfl, by rw [Lib.cell_of_heap y2]; rfl, rfrozen_at y2 0, by omega, by omega, hK.keep hw (by omega) (by omega)⟩
  have hbW : b < W.heap.size := by omega
  have hkbW : kb < W.heap.size := by omega
  have HW1 := hide hW1
  have HZ1 := hide hz1
  have HX2 := hide hx2
  have hcap' : (2 : Int) ≤ (cap : Int) := by omega
  clear hN hB1 hW1 hx1 hx2 hK hz1
  go_enter Tryz.func12, Tryz.ntmps12
  go_wp2_with (first
    | (go_at_call 17
       rw [unhide HW1]
       refine (unhide HC).mono ?_
       rintro e w2 ⟨rfl, hB2⟩
       obtain ⟨_, x1, x2, x3, x4, x5, hk2⟩ := unhide HBX w2 hB2
       have n0 := hk2.n0
       have hb2 := hk2.hb
       obtain ⟨W5, hW5⟩ : ∃ W5, w2.alloc (.cells #[.slice (some ⟨b, o, none⟩) 2 cap, .slice none 0 0] 50) = W5 := ⟨_, rfl⟩
       have hB25 : Below w2.heap.size w2 W5 := (by rw [← hW5]; exact (Below.refl _ w2).alloc (Nat.le_refl _) _)
       have hS5 : W5.heap[w2.heap.size]? = some (.cells #[.slice (some ⟨b, o, none⟩) 2 cap, .slice none 0 0] 50) := (by rw [← hW5]; exact World.alloc_heap_new w2 _)
       have HST := hide (strip_K W5 W1.heap.size w2.heap.size b o cap kb ko kc kc' ka' (hk2.keep hB25 hb2 hk2.hk) hS5 hB2.size (by omega))
       have HW5 := hide hW5
       have HB15 := hide (hB2.trans (hB25.mono hB2.size))
       clear hB2 hk2 hW5 hS5 hB25)
    | (go_at_call 24; refine (expr34 _).mono ?_; rintro e w3 ⟨rfl, hw3⟩; rw [hw3]; clear hw3)
    | (go_at_call 26; refine (rule34 _).mono ?_; rintro e w4 ⟨rfl, hw4⟩; rw [hw4]; clear hw4)
    | (go_at_call 25
       rw [unhide HW5]
       refine (unhide HST).mono ?_
       rintro e w6 ⟨rfl, g, c, hS6, hg6, hgl6, hc6, hge6, hB6⟩
       have hB16 := (unhide HB15).trans hB6
       obtain ⟨_, v1, v2, v3, v4, v5, _⟩ := unhide HBX w6 hB16
       have u1 : w6.cell? ⟨w2.heap.size, 1, none⟩ = some (.slice (some ⟨g, 0, none⟩) 1 c) := (by rw [Lib.cell_of_heap hS6]; rfl)
       have ul : w2.heap.size < w6.heap.size := (Array.getElem?_eq_some_iff.1 hS6).1
       have HB16 := hide hB16
       have HGE : Hid (w2.heap.size < g) := (by have h1 : W5.heap.size = w2.heap.size + 1 := (by rw [← unhide HW5]; simp); show w2.heap.size < g; omega)
       have HG6 := hide hg6
       clear hB6 hS6 hB16 hg6))
  have hne : g ≠ W.heap.size + 1 := by have := unhide HGE; omega
  obtain ⟨W7, hW7⟩ : ∃ W7, w6.setCell ⟨W.heap.size + 1, 0, none⟩ (.slice (some ⟨g, 0, none⟩) 1 c) = W7 := ⟨_, rfl⟩
  have hk7 : W7.heap[g]? = w6.heap[g]? := by rw [← hW7]; exact Below.heap_setCell _ _ _ _ hne
  have hx6 : ∃ o6, w6.heap[W.heap.size + 1]? = some (.cells #[o6] 24) := by
    refine ⟨.slice none 0 0, ?_⟩
    exact ((unhide HB16).block (W.heap.size + 1) (by have := unhide HZ1; omega)).trans (unhide HX2)
  obtain ⟨o6, hx6⟩ := hx6
  have hx7 : W7.heap[W.heap.size + 1]? = some (.cells #[.slice (some ⟨g, 0, none⟩) 1 c] 24) := by rw [← hW7]; exact setK hx6 0 _
  have r7 : W7.cell? ⟨W.heap.size + 1, 0, none⟩ = some (.slice (some ⟨g, 0, none⟩) 1 c) := by rw [Lib.cell_of_heap hx7]; rfl
  have g7 : W7.cell? ⟨g, 1, none⟩ = some (.string ⟨#[120]⟩) := by
    refine Eq.trans ?_ (unhide HG6)
    unfold World.cell?
    rw [show W7.heap[(⟨g, 1, none⟩ : Addr).block]? = w6.heap[(⟨g, 1, none⟩ : Addr).block]? from hk7]
  have hB7 : Below W.heap.size W W7 := by rw [← hW7]; exact ((unhide HBX w6 (unhide HB16)).1).setCell (p := ⟨W.heap.size + 1, 0, none⟩) (by show W.heap.size ≤ W.heap.size + 1; omega) _
  have hl7 : g < W7.heap.size := by rw [← hW7]; simp [World.setCell]; omega
  rw [hW7]
  exact bodyPost_ret (v := .tuple #[.agg #[.slice (some ⟨g, 0, none⟩) 1 c], .int .i64 0]) (by simp [results, Tryz.results12, go_sem, r7]) rfl ⟨g, c, rfl, g7, hl7, hc6, hB7⟩
end Go.Proofs.YtnnpkomedpjlcaaGreatDoor

/- shucklaw5.known answers true, in whatever memory. -/
namespace Go.Proofs.YtnnpkomedpjlcaaGreatDoor
set_option linter.unusedSimpArgs false
set_option linter.unusedVariables false
open Go.RowKit Go.Shelf

/-- The known tree as it is laid. -/
def knW (w : World) : World := ((w.alloc (.cells #[.int .i64 1] 3)).alloc (.cells #[.int .i64 34, .string ⟨#[]⟩, .int .i64 0, .slice (some ⟨w.heap.size, 0, none⟩) 1 1, .int .i64 0, .int .i64 17, .string ⟨#[120]⟩, .int .i64 0, .slice none 0 0, .int .i64 0] 41)).alloc (.cells #[.slice (some ⟨w.heap.size + 1, 0, none⟩) 2 2] 24)
theorem knW_size (w : World) : (knW w).heap.size = w.heap.size + 3 := by simp [knW]
theorem knW_0 (w : World) : (knW w).heap[w.heap.size]? = some (.cells #[.int .i64 1] 3) :=
  (Below.heap_alloc _ _ _ (by simp; omega)).trans ((Below.heap_alloc _ _ _ (by simp)).trans (World.alloc_heap_new w _))
theorem knW_1 (w : World) : (knW w).heap[w.heap.size + 1]? = some (.cells #[.int .i64 34, .string ⟨#[]⟩, .int .i64 0, .slice (some ⟨w.heap.size, 0, none⟩) 1 1, .int .i64 0, .int .i64 17, .string ⟨#[120]⟩, .int .i64 0, .slice none 0 0, .int .i64 0] 41) := by
  refine (Below.heap_alloc _ _ _ (by simp)).trans ?_
  have := World.alloc_heap_new (w.alloc (.cells #[.int .i64 1] 3)) (.cells #[.int .i64 34, .string ⟨#[]⟩, .int .i64 0, .slice (some ⟨w.heap.size, 0, none⟩) 1 1, .int .i64 0, .int .i64 17, .string ⟨#[120]⟩, .int .i64 0, .slice none 0 0, .int .i64 0] 41)
  rw [World.size_alloc] at this
  exact this
theorem knW_2 (w : World) : (knW w).heap[w.heap.size + 2]? = some (.cells #[.slice (some ⟨w.heap.size + 1, 0, none⟩) 2 2] 24) := by
  have := World.alloc_heap_new ((w.alloc (.cells #[.int .i64 1] 3)).alloc (.cells #[.int .i64 34, .string ⟨#[]⟩, .int .i64 0, .slice (some ⟨w.heap.size, 0, none⟩) 1 1, .int .i64 0, .int .i64 17, .string ⟨#[120]⟩, .int .i64 0, .slice none 0 0, .int .i64 0] 41)) (.cells #[.slice (some ⟨w.heap.size + 1, 0, none⟩) 2 2] 24)
  rw [World.size_alloc, World.size_alloc] at this
  exact this
theorem knW_below (w : World) : Below w.heap.size w (knW w) := (((Below.refl _ w).alloc (Nat.le_refl _) _).alloc (by simp) _).alloc (by simp; omega) _
theorem knW_nodes (w : World) : Nodes (knW w) (w.heap.size + 2) (.slice (some ⟨w.heap.size + 1, 0, none⟩) 2 2) lK := by
  refine ⟨by decide, fun j hj => ?_, some ⟨w.heap.size + 1, 0, none⟩, 2, rfl, by decide, by unfold maxLen; omega, .inr ⟨w.heap.size + 1, 0, rfl, by omega, fun j hj => ?_⟩⟩
  · have hj' : j < 2 := hj
    rcases (show j = 0 ∨ j = 1 by omega) with rfl | rfl
    · exact ⟨by decide, by decide⟩
    · exact ⟨by decide, by decide⟩
  · have hj' : j < 2 := hj
    have h1 := knW_1 w
    have h0 := knW_0 w
    rcases (show j = 0 ∨ j = 1 by omega) with rfl | rfl
    · refine ⟨by rw [Lib.cell_of_heap h1]; rfl, by rw [Lib.cell_of_heap h1]; rfl, by rw [Lib.cell_of_heap h1]; rfl, ⟨some ⟨w.heap.size, 0, none⟩, 1, by rw [Lib.cell_of_heap h1]; rfl, by decide, by unfold maxLen; omega, .inr ⟨w.heap.size, 0, rfl, by omega, fun i hi => ?_⟩⟩, by rw [Lib.cell_of_heap h1]; rfl⟩
      have hi' : i < 1 := hi
      obtain rfl : i = 0 := by omega
      rw [Lib.cell_of_heap h0]; rfl
    · exact ⟨by rw [Lib.cell_of_heap h1]; rfl, by rw [Lib.cell_of_heap h1]; rfl, by rw [Lib.cell_of_heap h1]; rfl, ⟨none, 0, by rw [Lib.cell_of_heap h1]; rfl, by decide, by unfold maxLen; omega, .inl rfl⟩, by rw [Lib.cell_of_heap h1]; rfl⟩

set_option maxRecDepth 100000 in
set_option maxHeartbeats 4000000 in
theorem known5_any (w : World) : Calls Tryz.prog 11 #[] w fun e w' => e = .returned (.bool true) ∧ Below w.heap.size w w' := by
  obtain ⟨W1, hW1⟩ : ∃ W1, knW w = W1 := ⟨_, rfl⟩
  have hz1 : W1.heap.size = w.heap.size + 3 := by rw [← hW1]; exact knW_size w
  have hB1 : Below w.heap.size w W1 := by rw [← hW1]; exact knW_below w
  have hx2 : W1.heap[w.heap.size + 2]? = some (.cells #[.slice (some ⟨w.heap.size + 1, 0, none⟩) 2 2] 24) := by rw [← hW1]; exact knW_2 w
  have hN1 : Nodes W1 (w.heap.size + 2) (.slice (some ⟨w.heap.size + 1, 0, none⟩) 2 2) lK := by rw [← hW1]; exact knW_nodes w
  have HW1 : Hid (((w.alloc (.cells #[.int .i64 1] 3)).alloc (.cells #[.int .i64 34, .string ⟨#[]⟩, .int .i64 0, .slice (some ⟨w.heap.size, 0, none⟩) 1 1, .int .i64 0, .int .i64 17, .string ⟨#[120]⟩, .int .i64 0, .slice none 0 0, .int .i64 0] 41)).alloc (.cells #[.slice (some ⟨w.heap.size + 1, 0, none⟩) 2 2] 24) = W1) := hW1
  have HC := hide (core_any W1 (w.heap.size + 2) _ lK hN1 (by omega))
  rw [ccK] at HC
  have HX : Hid (∀ w', Below W1.heap.size W1 w' → Below w.heap.size w w' ∧ w'.cell? ⟨w.heap.size + 2, 0, none⟩ = some (.slice (some ⟨w.heap.size + 1, 0, none⟩) 2 2) ∧ w.heap.size + 2 < w'.heap.size ∧ Nodes w' (w.heap.size + 2) (.slice (some ⟨w.heap.size + 1, 0, none⟩) 2 2) lK) := fun w' h => by
    have hs := h.size
    exact ⟨hB1.trans (h.mono (by omega)), by rw [Lib.cell_of_heap ((h.block _ (by omega)).trans hx2)]; rfl, by omega, hN1.keep h (by omega)⟩
  clear hW1 hB1 hx2 hN1 hz1
  go_enter Tryz.func11, Tryz.ntmps11
  go_wp2_with (first
    | (go_at_call 8
       rw [unhide HW1]
       refine (unhide HC).mono ?_
       rintro e w2 ⟨rfl, hB2⟩
       obtain ⟨_, x2, x3, hN2⟩ := unhide HX w2 hB2
       have HS := hide (stripAll_K w2 (w.heap.size + 2) _ hN2 (by omega))
       have HB2 := hide hB2
       clear hB2 hN2)
    | (go_at_call 12
       refine (unhide HS).mono ?_
       rintro e w3 ⟨g, c, rfl, hg3, hgl3, hc3, hB3⟩
       have HB3 := hide ((unhide HB2).trans (hB3.mono (unhide HB2).size))
       clear hB3))
  go_ret
  exact ⟨rfl, (unhide HX _ ((unhide HB3).alloc (unhide HB3).size _)).1⟩
end Go.Proofs.YtnnpkomedpjlcaaGreatDoor

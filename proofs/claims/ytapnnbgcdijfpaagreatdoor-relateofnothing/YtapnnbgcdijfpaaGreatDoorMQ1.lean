/- made's region. -/
import Derived.Test.YtapnnbgcdijfpaaGreatDoorMQ0
namespace Go.Proofs.YtapnnbgcdijfpaaGreatDoor
set_option linter.unusedSimpArgs false
set_option linter.unusedVariables false
set_option maxRecDepth 100000
set_option maxHeartbeats 4000000
open Go.RowKit Go.Shelf
/-- made's region: one order alone, but for the loads. -/
theorem made_region (ps : String) {Q : Exit → Act → World → Prop} {a : Act} {w : World} {id : Nat} (x y : Nat) (hx : 1 ≤ x ∧ x ≤ 10) (hy : 1 ≤ y ∧ y ≤ 10) (base B C R : Nat) (Z : Array Value) (hZ : Z.size = 13)
    (hsz : 14 ≤ a.tmps.size) (e2 : a.eval (.tmp 2) = .pointer (some ⟨B, 0, none⟩)) (e3 : a.eval (.tmp 3) = .pointer (some ⟨C, 0, none⟩)) (e4 : a.eval (.tmp 4) = .pointer (some ⟨R, 0, none⟩))
    (hB : Bx w B (tK x) 55) (hC : Bx w C (tK y) 55) (hR : Bx w R Z 149) (hBR : B ≠ R) (hCR : C ≠ R)
    (hQ : ∀ u s t, Below w.heap.size w u → Q .normal (((((((((a.put (some 5) (.agg (tK x))).put (some 6) (.agg (tK y))).put (some 7) (.agg (tK x))).put (some 10) (.agg (tK y))).put (some 8) (.string (bareW x))).put (some 9) (.string s)).put (some 11) (.string (bareW y))).put (some 12) (.string t)).put (some 13) (.agg (pK x y t))) (u.setRow R (pK x y t))) :
    (Code.region id (opsM ps).toArray true).wp Tryz.prog Q a w := by
  refine wp_region_noPanic ?_
  refine wp_region_held (S := fun u => Bx u B (tK x) 55 ∧ Bx u C (tK y) 55) (by kernel_rfl) ?_
  have hQn : ∀ (dst : Option Tmp) (v : Value) (c : List PanicEntry) (a : Act) (w : World), NoPanic Q (.panic c) (a.put dst v) w → NoPanic Q (.panic c) a w := fun _ _ _ _ _ h => h
  have hs : ∀ d, d < 14 → d < a.tmps.size := fun d h => by omega
  have hS0 : Bx { w with drawn := w.drawn + 1 } B (tK x) 55 ∧ Bx { w with drawn := w.drawn + 1 } C (tK y) 55 := ⟨hB, hC⟩
  have hw0 : Below w.heap.size w { w with drawn := w.drawn + 1 } := (Below.refl _ _).drew
  refine wpAnyH_take (i := 0) (v := (.agg (tK x))) (im_0 ps) (by kernel_rfl) (by kernel_rfl) (by kernel_rfl) (hQn _ _) (.inl ⟨by rfl, fun u hu => ?_⟩) hS0 ?_
  · exact run_ld55 _ rfl B (by simp [om_0, om_1, om_2, om_3, om_4, om_5, om_6, om_7, om_8, om_9, ev_ne, ev_eq, sz_put, e2, e3, hs]) _ hu.1 rfl
  refine wpAnyH_take (i := 1) (v := (.agg (tK y))) (im_1 ps) (by kernel_rfl) (by kernel_rfl) (by kernel_rfl) (hQn _ _) (.inl ⟨by rfl, fun u hu => ?_⟩) hS0 ?_
  · exact run_ld55 _ rfl C (by simp [om_0, om_1, om_2, om_3, om_4, om_5, om_6, om_7, om_8, om_9, ev_ne, ev_eq, sz_put, e2, e3, hs]) _ hu.2 rfl
  refine wpAnyH_take (i := 2) (v := (.agg (tK x))) (im_2 ps) (by kernel_rfl) (by kernel_rfl) (by kernel_rfl) (hQn _ _) (.inl ⟨by rfl, fun u hu => ?_⟩) hS0 ?_
  · exact run_ld55 _ rfl B (by simp [om_0, om_1, om_2, om_3, om_4, om_5, om_6, om_7, om_8, om_9, ev_ne, ev_eq, sz_put, e2, e3, hs]) _ hu.1 rfl
  refine wpAnyH_take (i := 5) (v := (.agg (tK y))) (im_5 ps) (by kernel_rfl) (by kernel_rfl) (by kernel_rfl) (hQn _ _) (.inl ⟨by rfl, fun u hu => ?_⟩) hS0 ?_
  · exact run_ld55 _ rfl C (by simp [om_0, om_1, om_2, om_3, om_4, om_5, om_6, om_7, om_8, om_9, ev_ne, ev_eq, sz_put, e2, e3, hs]) _ hu.2 rfl
  change wpAnyH _ _ _ _ _ _ _ ((((a.put (some 5) (.agg (tK x))).put (some 6) (.agg (tK y))).put (some 7) (.agg (tK x))).put (some 10) (.agg (tK y))) _
  obtain ⟨a1, ha1⟩ : ∃ a1, ((((a.put (some 5) (.agg (tK x))).put (some 6) (.agg (tK y))).put (some 7) (.agg (tK x))).put (some 10) (.agg (tK y))) = a1 := ⟨_, rfl⟩
  have g7 : a1.eval (.tmp 7) = .agg (tK x) := by rw [← ha1]; simp [ev_ne, ev_eq, sz_put, hs]
  have g10 : a1.eval (.tmp 10) = .agg (tK y) := by rw [← ha1]; simp [ev_ne, ev_eq, sz_put, hs]
  have g5 : a1.eval (.tmp 5) = .agg (tK x) := by rw [← ha1]; simp [ev_ne, ev_eq, sz_put, hs]
  have g6 : a1.eval (.tmp 6) = .agg (tK y) := by rw [← ha1]; simp [ev_ne, ev_eq, sz_put, hs]
  have g4 : a1.eval (.tmp 4) = .pointer (some ⟨R, 0, none⟩) := by rw [← ha1]; simp [ev_ne, ev_eq, sz_put, hs, e4]
  have gs : ∀ d, d < 14 → d < a1.tmps.size := by rw [← ha1]; simpa [sz_put] using hs
  rw [ha1] at hQ ⊢
  clear ha1 hs e2 e3 e4 hsz
  refine wpAnyH_all (rs := [3]) (by kernel_rfl) (by simp) ?_
  intro i hi
  simp only [List.mem_singleton] at hi
  subst hi
  refine op_call1 (im_3 ps) rfl 127 cf127 _ _ rfl _ g7 _ (rtext_any x hx.1 hx.2 _) ?_
  rintro e u1 ⟨rfl, hb1⟩
  have hu1 : Below w.heap.size w u1 := hw0.trans hb1
  have hS1 : Bx u1 B (tK x) 55 ∧ Bx u1 C (tK y) 55 := ⟨hB.below hu1 hB.lt, hC.below hu1 hC.lt⟩
  refine ⟨_, rfl, hS1, ?_⟩
  refine wpAnyH_take (i := 4) (v := .string (bareW x ++ ⟨#[32, 58, 32]⟩)) (im_4 ps) (by kernel_rfl) (by kernel_rfl) (by kernel_rfl) (hQn _ _) (.inl ⟨by rfl, fun u hu => ?_⟩) hS1 ?_
  · exact run_add9 _ _ rfl _ _ (by simp [om_0, om_1, om_2, om_3, om_4, om_5, om_6, om_7, om_8, om_9, ev_ne, ev_eq, sz_put, gs]) rfl (Nat.le_trans (bare_size x hx.2) (by omega)) (by decide)
  refine wpAnyH_all (rs := [6]) (by kernel_rfl) (by simp) ?_
  intro i hi
  simp only [List.mem_singleton] at hi
  subst hi
  refine op_call1 (im_6 ps) rfl 127 cf127 _ _ rfl _ (by simp [om_0, om_1, om_2, om_3, om_4, om_5, om_6, om_7, om_8, om_9, ev_ne, ev_eq, sz_put, gs, g10]) _ (rtext_any y hy.1 hy.2 _) ?_
  rintro e u2 ⟨rfl, hb2⟩
  have hu2 : Below w.heap.size w u2 := hu1.trans (hb2.mono hu1.size)
  have hS2 : Bx u2 B (tK x) 55 ∧ Bx u2 C (tK y) 55 := ⟨hB.below hu2 hB.lt, hC.below hu2 hC.lt⟩
  refine ⟨_, rfl, hS2, ?_⟩
  have hsx : (bareW x ++ ⟨#[32, 58, 32]⟩ : ByteArray).size ≤ 12 := by have := bare_size x hx.2; rw [ByteArray.size_append]; show _ + 3 ≤ 12; omega
  refine wpAnyH_take (i := 7) (v := .string (bareW x ++ ⟨#[32, 58, 32]⟩ ++ bareW y)) (im_7 ps) (by kernel_rfl) (by kernel_rfl) (by kernel_rfl) (hQn _ _) (.inl ⟨by rfl, fun u hu => ?_⟩) hS2 ?_
  · exact run_add9 _ _ rfl _ _ (by simp [om_0, om_1, om_2, om_3, om_4, om_5, om_6, om_7, om_8, om_9, ev_ne, ev_eq, sz_put, gs]) (by simp [om_0, om_1, om_2, om_3, om_4, om_5, om_6, om_7, om_8, om_9, ev_ne, ev_eq, sz_put, gs]) (by omega) (Nat.le_trans (bare_size y hy.2) (by omega))
  refine wpAnyH_take (i := 8) (v := .agg (pK x y (bareW x ++ ⟨#[32, 58, 32]⟩ ++ bareW y))) (im_8 ps) (by kernel_rfl) (by kernel_rfl) (by kernel_rfl) (hQn _ _) (.inl ⟨by rfl, fun u hu => ?_⟩) hS2 ?_
  · exact run_bd149 _ _ _ rfl x y _ (by simp [om_0, om_1, om_2, om_3, om_4, om_5, om_6, om_7, om_8, om_9, ev_ne, ev_eq, sz_put, gs, g5]) (by simp [om_0, om_1, om_2, om_3, om_4, om_5, om_6, om_7, om_8, om_9, ev_ne, ev_eq, sz_put, gs, g6]) (by simp [om_0, om_1, om_2, om_3, om_4, om_5, om_6, om_7, om_8, om_9, ev_ne, ev_eq, sz_put, gs])
  refine wpAnyH_all (rs := [9]) (by kernel_rfl) (by simp) ?_
  intro i hi
  simp only [List.mem_singleton] at hi
  subst hi
  have v4 := g4
  refine op_store (im_9 ps) rfl 149 (.tmp 4) (.tmp 13) rfl R (pK x y (bareW x ++ ⟨#[32, 58, 32]⟩ ++ bareW y)) ?_ ?_ 149 Z (hR.below hu2 hR.lt) 13 info149 hZ rfl (by simp [pK, Value.oneCell']) ?_
  · simp [om_0, om_1, om_2, om_3, om_4, om_5, om_6, om_7, om_8, om_9, ev_ne, ev_eq, sz_put, gs, g4]
  · simp [om_0, om_1, om_2, om_3, om_4, om_5, om_6, om_7, om_8, om_9, ev_ne, ev_eq, sz_put, gs]
  refine ⟨⟨(heap_setRow_ne _ _ _ _ hBR).trans hS2.1, (heap_setRow_ne _ _ _ _ hCR).trans hS2.2⟩, ?_⟩
  refine wpAnyH_done (by kernel_rfl) ?_ _
  have hfin := hQ u2 (bareW x ++ ⟨#[32, 58, 32]⟩) (bareW x ++ ⟨#[32, 58, 32]⟩ ++ bareW y) hu2
  exact hfin
end Go.Proofs.YtapnnbgcdijfpaaGreatDoor

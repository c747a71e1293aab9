/- reached's function, over a worklist of one row that asks none. -/
import Derived.StillTailTactics
import Derived.Test.YtapnnbgcdijfpaaGreatDoorMK
import Derived.Test.YtapnnbgcdijfpaaGreatDoorKV
namespace Go.Proofs.YtapnnbgcdijfpaaGreatDoor
set_option linter.unusedSimpArgs false
set_option linter.unusedVariables false
set_option maxRecDepth 100000
set_option maxHeartbeats 4000000
open Go.RowKit Go.Shelf
attribute [local go_sem] Oper.semAt_some

variable {P : Program} {lo M : Nat} {mo : Option Nat} {dv : Value} {L : List Kt} {W : World}
theorem AAt.but {A : World} {r : Nat} (h : AAt P lo M mo dv L W) (hr : tyOf W r = 135) (hk : ∀ k, k < W.heap.size → k ≠ r → A.heap[k]? = W.heap[k]?) : AAt P lo M mo dv L A := by
  have hM := h.lt
  obtain ⟨tv, h1, h2⟩ := h.row
  refine ⟨⟨tv, (hk M hM (fun e => by subst e; simp [tyOf, h1] at hr)).trans h1, h2.keep fun k hl e => hk k hl (fun e' => by subst e'; omega)⟩, ?_, h.lo, h.len⟩
  have := h.num
  cases mo with
  | none => exact this
  | some b =>
    obtain ⟨hlo, n, D, hn, ho, hd⟩ := this
    refine ⟨hlo, n, D, hn, map_keep ho (hk b (map_lt ho) (fun e => ?_)), hd⟩
    subst e
    obtain ⟨es, cl, h3, _⟩ := ho
    simp [tyOf, h3] at hr
theorem Ru.but {A : World} {b m n r : Nat} (h : Ru lo M mo dv L b m n W) (hr : tyOf W r = 135) (hb : b ≠ r) (hk : ∀ k, k < W.heap.size → k ≠ r → A.heap[k]? = W.heap[k]?) : Ru lo M mo dv L b m n A :=
  ⟨h.ar.but hr hk, (World.cell?_of_block (a := ⟨b, 0, none⟩) (hk b h.blt hb)).trans h.c0, (World.cell?_of_block (a := ⟨b, 1, none⟩) (hk b h.blt hb)).trans h.c1, h.mem.keep (hk m h.mem.lt (fun e => by have := h.mem.ty; rw [e] at this; omega)), h.ne⟩
/-- A worklist of one row, its rules, and the box of reached's function. -/
structure Rs (lo M : Nat) (mo : Option Nat) (dv : Value) (L : List Kt) (b m r k bb : Nat) (x y s : Int) (q : Nat) (W : World) : Prop where
  wk : Wk M b m r k x y s W
  ru : Ru lo M mo dv L b m q W
  bx : Bx W bb #[.pointer (some ⟨b, 0, none⟩)] 93
theorem Rs.below {b m r k bb q : Nat} {x y s : Int} {A : World} (h : Rs lo M mo dv L b m r k bb x y s q W) (hb : Below W.heap.size W A) : Rs lo M mo dv L b m r k bb x y s q A := ⟨h.wk.below hb, h.ru.below hb, h.bx.below hb h.bx.lt⟩
theorem Bx.ty {b t : Nat} {cs : Array Value} (h : Bx W b cs t) : tyOf W b = t := by
  have h' : W.heap[b]? = some (.cells cs t) := h
  simp [tyOf, h']
theorem Bx.grown {b t m : Nat} {cs : Array Value} {A : World} (h : Bx W b cs t) (hg : W.grownBy A (some m)) (hm : tyOf W m = 0) (ht : t ≠ 0) : Bx A b cs t := (hg.block b h.lt (fun e => by cases e; exact ht (h.ty.symm.trans hm))).trans h
theorem Rs.grown {b m r k bb q q' : Nat} {x y s : Int} {A : World} (h : Rs lo M mo dv L b m r k bb x y s q W) (hg : W.grownBy A (some m)) (hr : Ru lo M mo dv L b m q' A) : Rs lo M mo dv L b m r k bb x y s q' A :=
  ⟨⟨h.wk.bx.grown hg h.ru.mem.ty (by decide), h.wk.row.grown hg h.ru.mem.ty (by decide)⟩, hr, h.bx.grown hg h.ru.mem.ty (by decide)⟩
theorem Rs.four {b m r k bb q : Nat} {x y s : Int} (h : Rs lo M mo dv L b m r k bb x y s q W) : W.cell? ⟨bb, 0, none⟩ = some (.pointer (some ⟨b, 0, none⟩)) ∧ W.cell? ⟨b, 3, none⟩ = some (.slice (some ⟨r, 0, none⟩) 1 1) ∧ W.cell? ⟨r, 0, none⟩ = some (.int .i64 x) ∧ W.cell? ⟨r, 1, none⟩ = some (.int .i64 y) := ⟨h.bx.cell 0 rfl, h.wk.bx.cell 3 rfl, h.wk.row.cell 0 rfl, h.wk.row.cell 1 rfl⟩
theorem Rs.on {b m r k bb q q' : Nat} {x y s : Int} {A X : World} (h : Rs lo M mo dv L b m r k bb x y s q W) (hg : W.grownBy A (some m)) (hm : MemAt m q' A) (hb : Below W.heap.size A X) : Rs lo M mo dv L b m r k bb x y s q' X :=
  h.grown (grown_bel hg hb) (h.ru.grown (grown_bel hg hb) (hm.keep (hb.block m h.ru.mem.lt)))
/-- What goes on behind the first pair: nothing turns but the members that were asked and the row. -/
structure Fm (m r : Nat) (A B : World) : Prop where
  os : B.os = A.os
  tape : B.tape = A.tape
  output : B.output = A.output
  size : A.heap.size ≤ B.heap.size
  block : ∀ k, k < A.heap.size → k ≠ m → k ≠ r → B.heap[k]? = A.heap[k]?
theorem reached1_in (n : Nat) (hn : 2 ≤ n) (lp b m r k bb : Nat) (i j : Nat) (s : Int) (W : World) (J : World → Prop)
    (h0 : Rs lo M mo dv L b m r k bb i j 0 0 W)
    (hA : ∀ u, Ru lo M mo dv L b m 0 u → Calls Tryz.prog 88 #[.pointer (some ⟨b, 0, none⟩), .agg #[.int .i64 (i : Int), .int .i64 (j : Int)]] u fun e w' => e = .returned (.agg #[.slice none 0 0, .int .i64 s]) ∧ Ru lo M mo dv L b m (0 + 2) w' ∧ u.grownBy w' (some m))
    (hJ : ∀ A, J A → Rs lo M mo dv L b m r k bb i j 0 0 A)
    (hY : YieldAt Fence.wide (n - 1) Tryz.prog lp #[.agg #[.int .i64 (i : Int), .int .i64 (j : Int)]] W fun e A => e = .returned (.bool true) ∧ J A) :
    CallsIn Fence.wide n Tryz.prog 87 #[.func (.yield lp) #[] #[], .pointer (some ⟨bb, 0, none⟩)] W fun e W' => (∃ v, e = .returned v) ∧ ∃ A, J A ∧ Fm m r A W' ∧ Rs lo M mo dv L b m r k bb i j s 2 W' := by
  have c0 := h0.bx.cell 0 rfl
  have l0 := h0.bx.lt
  have c3 := h0.wk.bx.cell 3 rfl
  have l3 := h0.wk.bx.lt
  have HR := hide h0.wk.row
  have r0 := h0.wk.row.cell 0 rfl
  have r1 := h0.wk.row.cell 1 rfl
  have rl := h0.wk.row.lt
  have HA := hide hA
  have HJ := hide hJ
  obtain ⟨fn, tm, asg, bd, hy, hRd⟩ := hY
  have HRD := hide hRd
  clear h0 hA hJ hRd
  refine callsIn_of_wp Tryz.func87 rfl trivial ?_ rfl
  simp only [Tryz.ntmps87, List.size_toArray, List.length_cons, List.length_nil, Nat.reduceAdd, Nat.reduceSub, Array.replicate_succ, Array.replicate_zero, List.push_toArray, List.append_toArray, List.nil_append, List.cons_append]
  gi_wp2
  refine ⟨fun _ => by omega, (unhide HRD).mono ?_⟩
  rintro x A ⟨rfl, hj⟩
  have h1 := unhide HJ A hj
  have HJA := hide hj
  clear hy HRD hj c0 l0 c3 l3 r0 r1 rl HR
  have c0 := h1.bx.cell 0 rfl
  have l0 := h1.bx.lt
  have c3 := h1.wk.bx.cell 3 rfl
  have l3 := h1.wk.bx.lt
  have HROW := hide h1.wk.row
  have r0 := h1.wk.row.cell 0 rfl
  have r1 := h1.wk.row.cell 1 rfl
  have rl := h1.wk.row.lt
  have HH := hide h1
  clear h1
  gi_wp2
  refine wpIn_wide.2 ?_
  refine wp_loop_rounds 2 ?_
  rw [rounds_succ]
  go_wp2
  have HSS : Hid (∀ w', Below A.heap.size A w' → w'.cell? ⟨bb, 0, none⟩ = some (.pointer (some ⟨b, 0, none⟩)) ∧ w'.cell? ⟨b, 3, none⟩ = some (.slice (some ⟨r, 0, none⟩) 1 1) ∧ w'.cell? ⟨r, 0, none⟩ = some (.int .i64 (i : Int)) ∧ w'.cell? ⟨r, 1, none⟩ = some (.int .i64 (j : Int))) := fun w' hb => ⟨(hb.cell (p := ⟨bb, 0, none⟩) l0).trans c0, (hb.cell (p := ⟨b, 3, none⟩) l3).trans c3, (hb.cell (p := ⟨r, 0, none⟩) rl).trans r0, (hb.cell (p := ⟨r, 1, none⟩) rl).trans r1⟩
  have HAL : Hid (Bx (A.alloc (.cells #[.slice none 0 0, .int .i64 0] 143)).drew A.heap.size #[.slice none 0 0, .int .i64 0] 143) := al_at A _
  have HBA : Hid (Below A.heap.size A (A.alloc (.cells #[.slice none 0 0, .int .i64 0] 143)).drew) := ((Below.refl _ A).alloc (Nat.le_refl _) _).drew
  have HBD : Hid (Below A.heap.size A A.drew) := (Below.refl _ A).drew
  go_region_held3 (fun w' => w'.cell? ⟨bb, 0, none⟩ = some (.pointer (some ⟨b, 0, none⟩)) ∧ w'.cell? ⟨b, 3, none⟩ = some (.slice (some ⟨r, 0, none⟩) 1 1) ∧ w'.cell? ⟨r, 0, none⟩ = some (.int .i64 (i : Int)) ∧ w'.cell? ⟨r, 1, none⟩ = some (.int .i64 (j : Int)))
    (with_reducible first
      | exact unhide HS3 _ (by repeat first | exact Below.refl _ _ | refine Below.drew ?_ | refine Below.setCell ?_ (by first | exact Nat.le_refl _ | (simp; done) | (simp; omega)) _ | refine Below.alloc ?_ (by first | exact Nat.le_refl _ | assumption | (simp; done) | (simp; omega)) _)
      | exact unhide HSS _ (by repeat first | exact Below.refl _ _ | refine Below.drew ?_ | refine Below.setCell ?_ (by first | exact Nat.le_refl _ | (simp; done) | (simp; omega)) _ | refine Below.alloc ?_ (by first | exact Nat.le_refl _ | assumption | (simp; done) | (simp; omega)) _)
      | assumption)
    (first
      | (go_at_call 88; (with_reducible refine (unhide HA _ ((unhide HH).below (unhide HBA)).ru).mono ?_); rintro e w3 ⟨rfl, hr3, hg3⟩; have g8 := Bx.grown (unhide HAL) hg3 ((unhide HH).below (unhide HBA)).ru.mem.ty (by decide); have g8a := g8.cell 0 rfl; have g8b := g8.cell 1 rfl; have g8c := g8.free 0; have g8d := g8.free 1; have g8e := g8.lt; have hz3' := Nat.le_trans (unhide HBA).size hg3.size; have hga := grown_trans (below_grown (unhide HBA)) hg3; have hz3 : A.heap.size ≤ w3.heap.size := hz3'; have HGA := hide hga; have HM3 := hide hr3.mem; have HS3 : Hid (∀ w', Below A.heap.size w3 w' → w'.cell? ⟨bb, 0, none⟩ = some (.pointer (some ⟨b, 0, none⟩)) ∧ w'.cell? ⟨b, 3, none⟩ = some (.slice (some ⟨r, 0, none⟩) 1 1) ∧ w'.cell? ⟨r, 0, none⟩ = some (.int .i64 (i : Int)) ∧ w'.cell? ⟨r, 1, none⟩ = some (.int .i64 (j : Int))) := (fun w' hb => Rs.four ((unhide HH).on (unhide HGA) (unhide HM3) hb)); clear hr3 hg3 hga hz3')
      | (go_at_call 88; (with_reducible refine (unhide HA _ ((unhide HH).below (unhide HBD)).ru).mono ?_); rintro e w3 ⟨rfl, hr3, hg3⟩; have hz3' := Nat.le_trans (unhide HBD).size hg3.size; have hga := grown_trans (below_grown (unhide HBD)) hg3; have hz3 : A.heap.size ≤ w3.heap.size := hz3'; have HGA := hide hga; have HM3 := hide hr3.mem; have HS3 : Hid (∀ w', Below A.heap.size w3 w' → w'.cell? ⟨bb, 0, none⟩ = some (.pointer (some ⟨b, 0, none⟩)) ∧ w'.cell? ⟨b, 3, none⟩ = some (.slice (some ⟨r, 0, none⟩) 1 1) ∧ w'.cell? ⟨r, 0, none⟩ = some (.int .i64 (i : Int)) ∧ w'.cell? ⟨r, 1, none⟩ = some (.int .i64 (j : Int))) := (fun w' hb => Rs.four ((unhide HH).on (unhide HGA) (unhide HM3) hb)); clear hr3 hg3 hga hz3'))
  · obtain ⟨X, hX⟩ : ∃ X, w3.alloc (.cells #[.slice none 0 0, .int .i64 s] 143) = X := ⟨_, rfl⟩
    have hBX : Below A.heap.size w3 X := by rw [← hX]; exact (Below.refl _ _).alloc hz3 _
    have hq : Bx X w3.heap.size #[.slice none 0 0, .int .i64 s] 143 := by rw [← hX]; exact al_at w3 _
    rw [hX]
    obtain ⟨qa, hqa⟩ : ∃ qa, w3.heap.size = qa := ⟨_, rfl⟩
    have hqA : A.heap.size ≤ qa := by omega
    rw [hqa] at hq ⊢
    clear hX hqa
    have hRX := (unhide HH).on (unhide HGA) (unhide HM3) hBX
    have hlr : r < A.heap.size := (unhide HH).wk.row.lt
    have hqr : qa ≠ r := by omega
    have Rk := hRX.wk.row
    obtain ⟨Y, hY⟩ : ∃ Y, X.setCell ⟨r, 2, none⟩ (.int .i64 s) = Y := ⟨_, rfl⟩
    have hkY : ∀ k, k ≠ r → Y.heap[k]? = X.heap[k]? := fun k hk => by rw [← hY]; exact Below.heap_setCell _ _ _ _ hk
    have hrY : Bx Y r #[.int .i64 (i : Int), .int .i64 (j : Int), .int .i64 s, .slice none 0 0] 135 := by rw [← hY]; exact Rk.set _
    have hzY : Y.heap.size = X.heap.size := by rw [← hY]; exact set_size _ _ _
    have htr : tyOf X r = 135 := Rk.ty
    have hbr : b ≠ r := fun e => by have := hRX.wk.bx.ty; rw [e, htr] at this; omega
    have hbbr : bb ≠ r := fun e => by have := hRX.bx.ty; rw [e, htr] at this; omega
    have hRY : Rs lo M mo dv L b m r k bb i j s 2 Y := ⟨⟨(hkY b hbr).trans hRX.wk.bx, hrY⟩, hRX.ru.but htr hbr (fun k _ hk => hkY k hk), (hkY bb hbbr).trans hRX.bx⟩
    have hqY : Bx Y qa #[.slice none 0 0, .int .i64 s] 143 := (hkY qa hqr).trans hq
    have HFM : Hid (Fm m r A Y) := ⟨by rw [← hY]; exact hBX.os.trans (unhide HGA).os, by rw [← hY]; exact hBX.tape.trans (unhide HGA).tape, by rw [← hY]; exact hBX.output.trans (unhide HGA).output, by rw [hzY]; exact Nat.le_trans hz3 hBX.size, fun k hk h1 h2 => (hkY k h2).trans ((hBX.block k hk).trans ((unhide HGA).block k hk (fun e => by cases e; exact h1 rfl)))⟩
    have HRY := hide hRY
    have x0 := hRX.bx.cell 0 rfl
    have xl := hRX.bx.lt
    have x3 := hRX.wk.bx.cell 3 rfl
    have x3l := hRX.wk.bx.lt
    have xr := Rk.cell 2 rfl
    have xf := Rk.free 2
    have xrl := Rk.lt
    have q1 := hq.cell 1 rfl
    have ql := hq.lt
    have y0 := hRY.bx.cell 0 rfl
    have yl := hRY.bx.lt
    have y3 := hRY.wk.bx.cell 3 rfl
    have y3l := hRY.wk.bx.lt
    have z0 := hqY.cell 0 rfl
    have zl := hqY.lt
    clear hRX Rk hkY hrY hzY htr hbr hbbr hRY hqY hq hBX c0 l0 c3 l3 r0 r1 rl HSS HS3 HAL HBA HBD hz3 hlr
    go_wp2
    go_still_tail 9, (by kernel_rfl)
    go_wp2
    refine wp_loop_rounds 1 ?_
    rw [rounds_succ]
    go_wp2
    rw [rounds_succ]
    go_wp2
    exact bodyPost_end (results_none rfl _ _ _) rfl ⟨⟨_, rfl⟩, A, unhide HJA, ⟨(unhide HFM).os, (unhide HFM).tape, (unhide HFM).output, (unhide HFM).size, (unhide HFM).block⟩, (unhide HRY).below (Below.refl _ _).drew⟩
  · obtain ⟨X, hX⟩ : ∃ X, (w3.setCell ⟨A.heap.size, 0, none⟩ (.slice none 0 0)).setCell ⟨A.heap.size, 1, none⟩ (.int .i64 s) = X := ⟨_, rfl⟩
    have hBX : Below A.heap.size w3 X := by rw [← hX]; exact Below.setCell (p := ⟨A.heap.size, 1, none⟩) (Below.setCell (p := ⟨A.heap.size, 0, none⟩) (Below.refl _ _) (Nat.le_refl _) _) (Nat.le_refl _) _
    have hq : Bx X A.heap.size #[.slice none 0 0, .int .i64 s] 143 := by rw [← hX]; exact (g8.set (i := 0) _).set (i := 1) _
    rw [hX]
    obtain ⟨qa, hqa⟩ : ∃ qa, A.heap.size = qa := ⟨_, rfl⟩
    have hqA : A.heap.size ≤ qa := by omega
    rw [hqa] at hq ⊢
    clear hX g8 g8a g8b g8c g8d g8e
    have hRX := (unhide HH).on (unhide HGA) (unhide HM3) hBX
    have hlr : r < A.heap.size := (unhide HH).wk.row.lt
    have hqr : qa ≠ r := by omega
    have Rk := hRX.wk.row
    obtain ⟨Y, hY⟩ : ∃ Y, X.setCell ⟨r, 2, none⟩ (.int .i64 s) = Y := ⟨_, rfl⟩
    have hkY : ∀ k, k ≠ r → Y.heap[k]? = X.heap[k]? := fun k hk => by rw [← hY]; exact Below.heap_setCell _ _ _ _ hk
    have hrY : Bx Y r #[.int .i64 (i : Int), .int .i64 (j : Int), .int .i64 s, .slice none 0 0] 135 := by rw [← hY]; exact Rk.set _
    have hzY : Y.heap.size = X.heap.size := by rw [← hY]; exact set_size _ _ _
    have htr : tyOf X r = 135 := Rk.ty
    have hbr : b ≠ r := fun e => by have := hRX.wk.bx.ty; rw [e, htr] at this; omega
    have hbbr : bb ≠ r := fun e => by have := hRX.bx.ty; rw [e, htr] at this; omega
    have hRY : Rs lo M mo dv L b m r k bb i j s 2 Y := ⟨⟨(hkY b hbr).trans hRX.wk.bx, hrY⟩, hRX.ru.but htr hbr (fun k _ hk => hkY k hk), (hkY bb hbbr).trans hRX.bx⟩
    have hqY : Bx Y qa #[.slice none 0 0, .int .i64 s] 143 := (hkY qa hqr).trans hq
    have HFM : Hid (Fm m r A Y) := ⟨by rw [← hY]; exact hBX.os.trans (unhide HGA).os, by rw [← hY]; exact hBX.tape.trans (unhide HGA).tape, by rw [← hY]; exact hBX.output.trans (unhide HGA).output, by rw [hzY]; exact Nat.le_trans hz3 hBX.size, fun k hk h1 h2 => (hkY k h2).trans ((hBX.block k hk).trans ((unhide HGA).block k hk (fun e => by cases e; exact h1 rfl)))⟩
    have HRY := hide hRY
    have x0 := hRX.bx.cell 0 rfl
    have xl := hRX.bx.lt
    have x3 := hRX.wk.bx.cell 3 rfl
    have x3l := hRX.wk.bx.lt
    have xr := Rk.cell 2 rfl
    have xf := Rk.free 2
    have xrl := Rk.lt
    have q1 := hq.cell 1 rfl
    have ql := hq.lt
    have y0 := hRY.bx.cell 0 rfl
    have yl := hRY.bx.lt
    have y3 := hRY.wk.bx.cell 3 rfl
    have y3l := hRY.wk.bx.lt
    have z0 := hqY.cell 0 rfl
    have zl := hqY.lt
    clear hRX Rk hkY hrY hzY htr hbr hbbr hRY hqY hq hBX c0 l0 c3 l3 r0 r1 rl HSS HS3 HAL HBA HBD hz3 hlr
    go_wp2
    go_still_tail 9, (by kernel_rfl)
    go_wp2
    refine wp_loop_rounds 1 ?_
    rw [rounds_succ]
    go_wp2
    rw [rounds_succ]
    go_wp2
    exact bodyPost_end (results_none rfl _ _ _) rfl ⟨⟨_, rfl⟩, A, unhide HJA, ⟨(unhide HFM).os, (unhide HFM).tape, (unhide HFM).output, (unhide HFM).size, (unhide HFM).block⟩, (unhide HRY).below (Below.refl _ _).drew⟩
end Go.Proofs.YtapnnbgcdijfpaaGreatDoor

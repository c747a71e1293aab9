/- The law TreeWalks, walked. -/
import Derived.BigQuiet
import Derived.LoopN
import Derived.OwnWalk
import Derived.Test.YtoffpbaddehncaaGreatDoorG8
import Derived.Test.YtoffpbaddehncaaGreatDoorSD
import Derived.Test.YtoffpbaddehncaaGreatDoorTH
import Derived.Test.YtoffpbaddehncaaGreatDoorTR
import Derived.Test.YtoffpbaddehncaaGreatDoorUG
/- The law TreeWalks over a tree. -/
namespace Go.Proofs.YtoffpbaddehncaaGreatDoor
set_option linter.unusedSimpArgs false
set_option linter.unusedVariables false
open Go.RowKit Go.Shelf

theorem fnn35 (f : Nat) (caps : Array Value) (w : World) : (binOp .eql 35 (.func (.func f) #[] caps) .nilFunc).run Tryz.prog w = .ok (.bool false) w := by kernel_rfl
theorem mdp_bd (l : List Nd) : ∀ i, 0 ≤ mdp l i ∧ mdp l i ≤ i
  | 0 => ⟨Int.le_refl _, Int.le_refl _⟩
  | i + 1 => by
    have ih := mdp_bd l i
    have h1 : depAt l i ≤ i := Nat.le_trans (popZ_len _) (stAt_len l i)
    simp only [mdp]
    omega
theorem one_new (w : World) (v : Value) (t : TypeId) : Boxed (w.alloc (.cells #[v] t)) w.heap.size t v := Boxed.new w t v

/-- What stays, all through: below the box of the best. -/
structure Held (W w6 : World) (Bs Bw Bx c c2 Bb : Nat) (v : Value) (st : Int) (l : List Nd) (w : World) : Prop where
  tree : w.cell? ⟨W.heap.size, 0, none⟩ = some v
  stop : Boxed w Bs 3 (.int .i64 st)
  want : Boxed w Bw 27 (.slice (some ⟨c2, 0, none⟩) l.length l.length)
  row : ∀ m, m < l.length → w.cell? ⟨c2, m, none⟩ = some (.int .i64 (depAt l m : Int))
  walk : Boxed w Bx 27 (.slice (some ⟨c, 0, none⟩) l.length l.length)
  own : w.ownsRow 0 3 1 (.slice (some ⟨c, 0, none⟩) l.length l.length) l.length (mixF (cntV l) l.length l.length)
  below : Below W.heap.size W w
  size : W.heap.size < w.heap.size
theorem Held.keep {W w6 : World} {Bs Bw Bx c c2 Bb : Nat} {v : Value} {st : Int} {l : List Nd} {w w' : World} (h : Held W w6 Bs Bw Bx c c2 Bb v st l w) (hB : Below Bb w w') (h0 : W.heap.size < Bb) (h1 : Bs < Bb) (h2 : Bw < Bb) (h3 : Bx < Bb) (h4 : c < Bb) (h5 : c2 < Bb) : Held W w6 Bs Bw Bx c c2 Bb v st l w' where
  tree := (hB.cell (p := ⟨W.heap.size, 0, none⟩) h0).trans h.tree
  stop := (hB.block Bs h1).trans h.stop
  want := (hB.block Bw h2).trans h.want
  row := fun m hm => (hB.cell (p := ⟨c2, m, none⟩) h5).trans (h.row m hm)
  walk := (hB.block Bx h3).trans h.walk
  own := ownsRow_heap h.own (fun g hg => hB.block g (by cases hg; exact h4))
  below := h.below.trans (hB.mono (by omega))
  size := by have := hB.size; have := h.size; omega

set_option maxRecDepth 100000 in
set_option maxHeartbeats 8000000 in
theorem walks_good (W : World) (M : Nat) (v : Value) (l : List Nd) (st : Int) (hN : Nodes W M v l) (hM : M ≤ W.heap.size) (hs : szN l l.length ≤ 3000) (h : (chkP l).2 = 0) :
    Calls Tryz.prog 5 #[.agg #[v], .int .i64 st] W fun e w' => e = .returned (.bool true) ∧ Below W.heap.size W w' := by
  obtain ⟨W1, hW1⟩ : ∃ W1, (W.alloc (.cells #[v] 24)).alloc (.cells #[.int .i64 st] 3) = W1 := ⟨_, rfl⟩
  have hz1 : W1.heap.size = W.heap.size + 1 + 1 := by rw [← hW1]; simp
  have hB1 : Below W.heap.size W W1 := by rw [← hW1]; exact ((Below.refl _ W).alloc (Nat.le_refl _) _).alloc (by simp) _
  have t1 : W1.cell? ⟨W.heap.size, 0, none⟩ = some v := by
    rw [← hW1, Lib.cell_of_heap (rat_a2 W _ _)]; rfl
  have s1 : Boxed W1 (W.heap.size + 1) 3 (.int .i64 st) := by rw [← hW1]; exact rat_a3 W _ _
  have hl3 : l.length ≤ 3000 := by have := szN_len l l.length; omega
  have hl0 := (chk_fine h).1
  have htx : ∀ m, m < l.length → (nd l m).text.size ≤ 1048576 := fun m hm => by have := szN_at l hm; omega
  have hkd : ∀ j, j < l.length → (nd l j).kids.length ≤ 17592186044416 := fun j hj => (hN.2.1 j hj).2
  have HNW : Hid (∀ w, Below W.heap.size W w → Nodes w M v l ∧ M ≤ w.heap.size) := fun w hw => ⟨hN.keep hw hM, Nat.le_trans hM hw.size⟩
  have HG : Hid (Calls Tryz.prog 9 #[.agg #[v]] W1 fun e w2 => e = .returned (.bool false) ∧ Below W1.heap.size W1 w2) := by
    have := great_any W1 M v l (unhide HNW W1 hB1).1 (unhide HNW W1 hB1).2
    rwa [show decide (3000 < szN l l.length) = false from decide_eq_false (by omega)] at this
  have HD : Hid (∀ w, Below W.heap.size W w → Calls Tryz.prog 15 #[.agg #[v]] w (DepQ l w)) := fun w hw => depths_good w M v l (unhide HNW w hw).1 (unhide HNW w hw).2 htx h hl3
  have HWK : Hid (∀ w, Below W.heap.size W w → Calls Tryz.prog 16 #[.agg #[v]] w (WalkMade w l)) := fun w hw => walk_good w M v l (unhide HNW w hw).1 (unhide HNW w hw).2 h
  have HDP : Hid (∀ w, Below W.heap.size W w → Calls Tryz.prog 19 #[.agg #[v]] w fun e w2 => e = .returned (.int .i64 (mdp l l.length)) ∧ Below w.heap.size w w2) := fun w hw => callsIn_wide.1 (depth_good w M v l (unhide HNW w hw).1 (unhide HNW w hw).2 h)
  have HKN : Hid (∀ w, Calls Tryz.prog 13 #[] w fun e w2 => e = .returned (.bool true) ∧ Below w.heap.size w w2) := fun w => known3_any w
  have HKD := hide hkd
  have HT1 := hide t1
  have HS1 := hide s1
  have HB1 := hide hB1
  obtain ⟨va, vc, rfl, hvc, _⟩ := hN.len
  have hst0 : W.heap.size < W1.heap.size := by omega
  clear hN hs h htx hkd hB1 s1
  have HF1 := hide (fun (w : World) (hw : Below W1.heap.size W1 w) => (⟨(unhide HB1).trans (hw.mono (by omega)), (hw.cell (p := ⟨W.heap.size, 0, none⟩) hst0).trans (unhide HT1), by have := hw.size; omega⟩ : Below W.heap.size W w ∧ w.cell? ⟨W.heap.size, 0, none⟩ = some (.slice va l.length vc) ∧ W.heap.size < w.heap.size))
  have fnn := fnn35
  go_enter Tryz.func5, Tryz.ntmps5
  go_wp2_with (first
    | (go_at_call 9; refine (unhide HG).mono ?_; rintro e w2 ⟨rfl, hB2⟩; obtain ⟨a2, b2, c2'⟩ := unhide HF1 w2 hB2)
    | (go_at_call 15; refine (unhide HD w2 a2).mono ?_; rintro e w3 ⟨c2, xs, rfl, ho3, hx3, hB3⟩; have hB3' := hB2.trans (hB3.mono hB2.size); obtain ⟨a3, b3, c3'⟩ := unhide HF1 w3 hB3'; have HO3 := hide ho3; have HX3 := hide hx3; have HBB3 := hide hB3; have hc23 := (ho3.lt c2 rfl); clear ho3 hx3 hB3; have hB4 : Below W1.heap.size W1 (w3.alloc (.cells #[.slice (some ⟨c2, 0, none⟩) l.length l.length] 27)) := hB3'.alloc hB3'.size _; obtain ⟨a4, b4, c4'⟩ := unhide HF1 _ hB4)
    | (go_at_call 16; refine (unhide HWK _ a4).mono ?_; rintro e w5 ⟨Bx, c, rfl, hbx, hrow, hBx1, hB5⟩))
  have hz5 := hB5.size
  simp only [World.size_alloc] at hz5 hBx1
  have hbl := hbx.lt
  have hcl := hrow.lt c rfl
  simp only [World.size_alloc] at hcl
  have z3 := hB3'.size
  have hH5 : Held W w5 (W.heap.size + 1) w3.heap.size Bx c c2 w5.heap.size (.slice va l.length vc) st l w5 := by
    have hB35 : Below w3.heap.size w3 w5 := ((Below.refl _ w3).alloc (Nat.le_refl _) _).trans (hB5.mono (by simp))
    have hB15 : Below W1.heap.size W1 w5 := hB3'.trans (hB35.mono z3)
    obtain ⟨a5, b5, c5'⟩ := unhide HF1 w5 hB15
    refine ⟨b5, (hB15.block _ (by omega)).trans (unhide HS1), (hB5.block w3.heap.size (by simp)).trans (one_new w3 _ 27), fun m hm => ?_, hbx, hrow.mono (Nat.zero_le _), a5, c5'⟩
    rw [hB35.cell (p := ⟨c2, m, none⟩) hc23.2]
    have := (unhide HO3).cellAt m (by omega)
    rw [this]
    exact unhide HX3 m hm
  have HH5 := hide hH5
  clear hH5
  obtain ⟨w6, hw6⟩ : ∃ w6, w5.alloc (.cells #[.int .i64 0] 3) = w6 := ⟨_, rfl⟩
  have hz6 : w6.heap.size = w5.heap.size + 1 := by rw [← hw6]; simp
  have HB6 : Hid (Below w5.heap.size w5 w6) := by rw [← hw6]; exact (Below.refl _ w5).alloc (Nat.le_refl _) _
  have HX6 : Hid (Boxed w6 w5.heap.size 3 (.int .i64 0)) := by rw [← hw6]; exact one_new w5 _ 3
  have HHD : Hid (∀ w, Below w5.heap.size w6 w → Held W w5 (W.heap.size + 1) w3.heap.size Bx c c2 w5.heap.size (.slice va l.length vc) st l w) := fun w hw => (unhide HH5).keep ((unhide HB6).trans hw) (by omega) (by omega) (by omega) (by omega) (by omega) (by omega)
  obtain ⟨Bb, hBb⟩ : ∃ Bb, w5.heap.size = Bb := ⟨_, rfl⟩
  obtain ⟨Bw, hBw⟩ : ∃ Bw, w3.heap.size = Bw := ⟨_, rfl⟩
  have hlt1 : W.heap.size < Bb := by omega
  have hlt2 : W.heap.size + 1 < Bb := by omega
  have hlt3 : Bw < Bb := by omega
  have hlt4 : Bx < Bb := by omega
  have hlt5 : c < Bb := by omega
  have hlt6 : c2 < Bb := by omega
  have hne1 : c2 ≠ Bw := by omega
  rw [hBb] at hz6 HX6 HHD
  rw [hBw] at HHD
  rw [hw6]
  rw [hBb, hBw]
  clear hw6 hbx hrow hB5 hz5 hBx1 hbl hcl hB4 a4 b4 c4' a3 b3 c3' hB3' HO3 HX3 HBB3 hc23 a2 b2 c2' hB2 hBb hBw HH5 HB6
  go_wp2
  go_loopw [8] (fun t8 wr => ∃ (tn : Nat) (b : Int), tn ≤ 2 ∧ t8 = .int .i64 (tn : Int) ∧ Below Bb w6 wr ∧ Boxed wr Bb 3 (.int .i64 b) ∧ 0 ≤ b ∧ b ≤ mdp l l.length ∧ (0 < tn → b = mdp l l.length)) (fun t8 _ => 2 - (intOf t8).toNat)
  case atStart => exact ⟨0, 0, by omega, rfl, Below.refl _ _, unhide HX6, by omega, (mdp_bd l l.length).1, fun h => by omega⟩
  case round =>
    obtain ⟨tn, b, htn, rfl, hBr, hbx, hb0, hb1, hbt⟩ := hrel
    obtain ⟨w0, hw0⟩ : ∃ w0, w0 = wr := ⟨_, rfl⟩
    subst hw0
    have hmd := mdp_bd l l.length
    have hzr := hBr.size
    by_cases hlt : tn < 2
    · have hlt' : (tn : Int) < 2 := by omega
      obtain ⟨wa, hwa⟩ : ∃ wa, (w0.alloc (.cells #[.int .i64 0] 3)).alloc (.cells #[.bool true] 4) = wa := ⟨_, rfl⟩
      have hza : wa.heap.size = w0.heap.size + 1 + 1 := by rw [← hwa]; simp
      have hBa : Below w0.heap.size w0 wa := by rw [← hwa]; exact ((Below.refl _ w0).alloc (Nat.le_refl _) _).alloc (by simp) _
      have ba1 : Boxed wa w0.heap.size 3 (.int .i64 0) := by rw [← hwa]; exact rat_a2 w0 _ _
      have ba2 : Boxed wa (w0.heap.size + 1) 4 (.bool true) := by rw [← hwa]; exact rat_a3 w0 _ _
      have hBa6 : Below Bb w6 wa := hBr.trans (hBa.mono (by omega))
      have ba3 : Boxed wa Bb 3 (.int .i64 b) := (hBa.block Bb (by omega)).trans hbx
      have hHa := unhide HHD wa hBa6
      have HWF : Hid (Calls Tryz.prog 35 #[.func (.func 17) #[] #[.pointer (some ⟨w0.heap.size + 1, 0, none⟩), .pointer (some ⟨w0.heap.size, 0, none⟩), .pointer (some ⟨Bw, 0, none⟩), .pointer (some ⟨Bb, 0, none⟩)], .pointer (some ⟨Bx, 0, none⟩)] wa fun e W' => (∃ v, e = .returned v) ∧ Boxed W' (w0.heap.size + 1) 4 (.bool true) ∧ Boxed W' w0.heap.size 3 (.int .i64 (l.length : Int)) ∧ Boxed W' Bb 3 (.int .i64 (mdp l l.length)) ∧ Below Bb w6 W' ∧ wa.heap.size ≤ W'.heap.size) := by
        refine (walk2_fn 17 enter17 _ Bx c l (unhide HKD) (by omega) wa (fun i A => Boxed A (w0.heap.size + 1) 4 (.bool true) ∧ Boxed A w0.heap.size 3 (.int .i64 (i : Int)) ∧ Boxed A Bb 3 (.int .i64 (max b (mdp l i))) ∧ Below Bb w6 A ∧ wa.heap.size ≤ A.heap.size) (fun _ _ => False) hHa.walk hHa.own ?hJ ?hY ?h0).mono ?post
        case hJ =>
          rintro i A C ⟨j1, j2, j3, j4, j5⟩ hb
          exact ⟨(hb.block _ (by omega)).trans j1, (hb.block _ (by omega)).trans j2, (hb.block _ (by omega)).trans j3, j4.trans (hb.mono (by omega)), Nat.le_trans j5 hb.size⟩
        case hY =>
          rintro i A ⟨j1, j2, j3, j4, j5⟩ hi hA
          have hHA := unhide HHD A j4
          have hdi : depAt l i ≤ i := Nat.le_trans (popZ_len _) (stAt_len l i)
          have hmi := mdp_bd l i
          refine (fn17_any i l.length c2 (w0.heap.size + 1) w0.heap.size Bw Bb (depAt l i : Int) (max b (mdp l i)) (by omega) hi A j1 j2 hHA.want (hHA.row i hi) j3 (by omega) (by omega) (by omega) (by omega) (by omega) (by omega) (by omega) (by omega) (by omega) (by omega) (by omega) (by omega) (by omega)).mono ?_
          rintro e A' ⟨rfl, g1, g2, g3, g4, g5, g6⟩
          refine ⟨fun k hk => g4 k (by omega) (by omega) (by omega), by omega, .inl ⟨rfl, g1, g2, ?_, j4.trans (g6 Bb (by omega) (by omega) (Nat.le_refl _)), by omega⟩⟩
          have e1 : max (max b (mdp l i)) (depAt l i : Int) = max b (mdp l (i + 1)) := by simp only [mdp]; omega
          rw [← e1]; exact g3
        case h0 => exact ⟨ba2, ba1, by have : max b (mdp l 0) = b := (by simp only [mdp]; omega); rw [this]; exact ba3, hBa6, Nat.le_refl _⟩
        case post =>
          rintro e W' ⟨hr, (⟨j1, j2, j3, j4, j5⟩ | ⟨_, _, hx⟩)⟩
          · refine ⟨hr, j1, j2, ?_, j4, j5⟩
            rwa [show max b (mdp l l.length) = mdp l l.length by omega] at j3
          · exact hx.elim
      clear hbx ba1 ba2 ba3 hHa hBa hBa6 hBr
      have hn1 : w0.heap.size < wa.heap.size := by omega
      have hBw0 : Bw < w0.heap.size := by omega
      have hx35 := enter35
      go_wp2_with (go_at_call 35; refine (unhide HWF).mono ?_; rintro e w8 ⟨⟨u, rfl⟩, e1, e2, e3, e4, e5⟩; have f1 := e1.cell; have f2 := e2.cell; have g1 := e1.lt; have g2 := e2.lt; have f3 := (unhide HHD w8 e4).want.cell; have g3 := (unhide HHD w8 e4).want.lt)
      exact ⟨⟨tn + 1, mdp l l.length, by omega, by go_num, e4, e3, hmd.1, Int.le_refl _, fun _ => rfl⟩, by simp [intOf]; omega⟩
    · have hlt' : ¬ (tn : Int) < 2 := by omega
      have hbm := hbt (by omega)
      subst hbm
      obtain ⟨wb, hwb⟩ : ∃ wb, w0.alloc (.cells #[.int .i64 0] 3) = wb := ⟨_, rfl⟩
      have hzb : wb.heap.size = w0.heap.size + 1 := by rw [← hwb]; simp
      have hBb0 : Below w0.heap.size w0 wb := by rw [← hwb]; exact (Below.refl _ w0).alloc (Nat.le_refl _) _
      have bb1 : Boxed wb w0.heap.size 3 (.int .i64 0) := by rw [← hwb]; exact one_new w0 _ 3
      have hBb6 : Below Bb w6 wb := hBr.trans (hBb0.mono (by omega))
      have hHb := unhide HHD wb hBb6
      have HWF : Hid (Calls Tryz.prog 35 #[.func (.func 18) #[] #[.pointer (some ⟨w0.heap.size, 0, none⟩), .pointer (some ⟨W.heap.size + 1, 0, none⟩)], .pointer (some ⟨Bx, 0, none⟩)] (w0.alloc (.cells #[.int .i64 0] 3)) fun e W' => (∃ v, e = .returned v) ∧ Boxed W' w0.heap.size 3 (.int .i64 (min (l.length : Int) (max 1 st))) ∧ Below w0.heap.size w0 W' ∧ wb.heap.size ≤ W'.heap.size) := by
        rw [hwb]
        refine (walk2_fn 18 enter18 _ Bx c l (unhide HKD) (by omega) wb (fun i A => Boxed A w0.heap.size 3 (.int .i64 (i : Int)) ∧ (i = 0 ∨ (i : Int) < st) ∧ Below w0.heap.size w0 A ∧ wb.heap.size ≤ A.heap.size) (fun i A => Boxed A w0.heap.size 3 (.int .i64 (i : Int)) ∧ 1 ≤ i ∧ st ≤ (i : Int) ∧ (i = 1 ∨ (i : Int) - 1 < st) ∧ Below w0.heap.size w0 A ∧ wb.heap.size ≤ A.heap.size) hHb.walk hHb.own ?hJ ?hY ?h0).mono ?post
        case hJ =>
          rintro i A C ⟨j1, j2, j4, j5⟩ hb
          exact ⟨(hb.block _ (by omega)).trans j1, j2, j4.trans (hb.mono (by omega)), Nat.le_trans j5 hb.size⟩
        case hY =>
          rintro i A ⟨j1, j2, j4, j5⟩ hi hA
          have hHA := unhide HHD A (hBr.trans (j4.mono (by omega)))
          refine (fn18_any i w0.heap.size (W.heap.size + 1) (i : Int) (depAt l i : Int) st (by omega) A j1 hHA.stop (by omega)).mono ?_
          rintro e A' ⟨rfl, g2, g4, g5, g6⟩
          refine ⟨fun k hk => g4 k (by omega), by omega, ?_⟩
          by_cases hst : ((i + 1 : Nat) : Int) < st
          · exact .inl ⟨by rw [decide_eq_true hst], g2, .inr hst, j4.trans (g6 _ (Nat.le_refl _)), by omega⟩
          · exact .inr ⟨by rw [decide_eq_false hst], g2, by omega, by omega, by omega, j4.trans (g6 _ (Nat.le_refl _)), by omega⟩
        case h0 => exact ⟨bb1, .inl rfl, hBb0, Nat.le_refl _⟩
        case post =>
          rintro e W' ⟨hr, (⟨j1, j2, j4, j5⟩ | ⟨i, hi, j1, j2, j3, j4, j5, j6⟩)⟩
          · refine ⟨hr, ?_, j4, j5⟩
            rwa [show (l.length : Int) = min (l.length : Int) (max 1 st) by omega] at j1
          · refine ⟨hr, ?_, j5, j6⟩
            rwa [show (i : Int) = min (l.length : Int) (max 1 st) by omega] at j1
      have hbx6 := hbx.lt
      have HBX := hide hbx
      clear hbx bb1 hHb hBb0 hBb6 hwb
      go_wp2_with (go_at_call 35; refine (unhide HWF).mono ?_; rintro e w8 ⟨⟨u, rfl⟩, e2, e4, e5⟩)
      have HCL : Hid (∀ w, Below w8.heap.size w8 w → w.cell? ⟨w0.heap.size, 0, none⟩ = some (.int .i64 (min (l.length : Int) (max 1 st))) ∧ w.cell? ⟨Bw, 0, none⟩ = some (.slice (some ⟨c2, 0, none⟩) l.length l.length) ∧ w.cell? ⟨W.heap.size + 1, 0, none⟩ = some (.int .i64 st) ∧ w.cell? ⟨W.heap.size, 0, none⟩ = some (.slice va l.length vc) ∧ w.cell? ⟨Bb, 0, none⟩ = some (.int .i64 (mdp l l.length)) ∧ Below W.heap.size W w) := fun w hw => by
        have hB8 : Below w0.heap.size w0 w := e4.trans (hw.mono (by omega))
        have hH := unhide HHD w (hBr.trans (hB8.mono (by omega)))
        exact ⟨Boxed.cell (show Boxed w w0.heap.size 3 _ from (hw.block _ (by omega)).trans e2), hH.want.cell, hH.stop.cell, hH.tree, Boxed.cell (show Boxed w Bb 3 _ from (hB8.block Bb hbx6).trans (unhide HBX)), hH.below⟩
      have HDC : Hid (∀ w, Below w8.heap.size w8 w → Calls Tryz.prog 19 #[.agg #[.slice va l.length vc]] w fun e w2 => e = .returned (.int .i64 (mdp l l.length)) ∧ Below w8.heap.size w8 w2) := fun w hw => (unhide HDP w (unhide HCL w hw).2.2.2.2.2).mono fun e w' h => ⟨h.1, hw.trans (h.2.mono hw.size)⟩
      have HKC : Hid (∀ w, Below w8.heap.size w8 w → Calls Tryz.prog 13 #[] w fun e w2 => e = .returned (.bool true) ∧ Below w8.heap.size w8 w2) := fun w hw => (unhide HKN w).mono fun e w' h => ⟨h.1, hw.trans (h.2.mono hw.size)⟩
      refine region_C (C := fun w' => Below w8.heap.size w8 w') (by kernel_rfl) (by kernel_rfl) (Below.refl _ _).drew ?_
      repeat (first
        | go_big_quiet_skip
        | (go_big_quiet_want
           go_big_quiet_op
           first
             | go_big_quiet_on
             | (apply Exists.intro
                refine ⟨fun w hw => ?_, ?_⟩
                first
                  | rfl
                  | (go_at_call 19; exact unhide HDC w hw)
                  | (go_at_call 13; exact unhide HKC w hw)
                  | (obtain ⟨f1, f2, f3, f4, f5, f6⟩ := unhide HCL w hw
                     go_simp
                     first | done | rfl | exact ⟨rfl, rfl⟩)
                go_big_quiet_on)))
      refine wpQuiet_nil ?_
      intro w9 hw9
      have HB9 := hide (unhide HCL w9 hw9).2.2.2.2.2
      go_wp2
      go_ret
      exact ⟨rfl, unhide HB9⟩
end Go.Proofs.YtoffpbaddehncaaGreatDoor

/- The law TreeWalks over what is no tree, and over whatever a call can reach. -/
namespace Go.Proofs.YtoffpbaddehncaaGreatDoor
set_option linter.unusedSimpArgs false
set_option linter.unusedVariables false
open Go.RowKit Go.Shelf

set_option maxRecDepth 100000 in
set_option maxHeartbeats 8000000 in
theorem walks_bad (W : World) (M : Nat) (v : Value) (l : List Nd) (st : Int) (hN : Nodes W M v l) (hM : M ≤ W.heap.size) (hs : szN l l.length ≤ 3000) (h : ¬ (chkP l).2 = 0) :
    Calls Tryz.prog 5 #[.agg #[v], .int .i64 st] W fun e w' => e = .returned (.bool true) ∧ Below W.heap.size W w' := by
  obtain ⟨W1, hW1⟩ : ∃ W1, (W.alloc (.cells #[v] 24)).alloc (.cells #[.int .i64 st] 3) = W1 := ⟨_, rfl⟩
  have hz1 : W1.heap.size = W.heap.size + 1 + 1 := by rw [← hW1]; simp
  have hB1 : Below W.heap.size W W1 := by rw [← hW1]; exact ((Below.refl _ W).alloc (Nat.le_refl _) _).alloc (by simp) _
  have t1 : W1.cell? ⟨W.heap.size, 0, none⟩ = some v := by
    rw [← hW1, Lib.cell_of_heap (rat_a2 W _ _)]; rfl
  have s1 : Boxed W1 (W.heap.size + 1) 3 (.int .i64 st) := by rw [← hW1]; exact rat_a3 W _ _
  have htx : ∀ m, m < l.length → (nd l m).text.size ≤ 1048576 := fun m hm => by have := szN_at l hm; omega
  have HNW : Hid (∀ w, Below W.heap.size W w → Nodes w M v l ∧ M ≤ w.heap.size) := fun w hw => ⟨hN.keep hw hM, Nat.le_trans hM hw.size⟩
  have HG : Hid (Calls Tryz.prog 9 #[.agg #[v]] W1 fun e w2 => e = .returned (.bool false) ∧ Below W1.heap.size W1 w2) := by
    have := great_any W1 M v l (unhide HNW W1 hB1).1 (unhide HNW W1 hB1).2
    rwa [show decide (3000 < szN l l.length) = false from decide_eq_false (by omega)] at this
  have HD : Hid (∀ w, Below W.heap.size W w → Calls Tryz.prog 15 #[.agg #[v]] w fun e w' => e = .returned (.slice none 0 0) ∧ Below w.heap.size w w') := fun w hw => depths_bad w M v l (unhide HNW w hw).1 (unhide HNW w hw).2 htx h
  have HWK : Hid (∀ w, Below W.heap.size W w → Calls Tryz.prog 16 #[.agg #[v]] w fun e w' => e = .returned (.func (.func 34) #[] #[]) ∧ Below w.heap.size w w') := fun w hw => walk_bad w M v l (unhide HNW w hw).1 (unhide HNW w hw).2 h
  have HDP : Hid (∀ w, Below W.heap.size W w → Calls Tryz.prog 19 #[.agg #[v]] w fun e w2 => e = .returned (.int .i64 0) ∧ Below w.heap.size w w2) := fun w hw => callsIn_wide.1 (depth_bad w M v l (unhide HNW w hw).1 (unhide HNW w hw).2 h)
  have HKN : Hid (∀ w, Calls Tryz.prog 13 #[] w fun e w2 => e = .returned (.bool true) ∧ Below w.heap.size w w2) := fun w => known3_any w
  have HW1 : Hid (∀ (y : Value) (w : World), Calls Tryz.prog 34 #[y] w fun e w2 => (∃ v, e = .returned v) ∧ w2 = w) := fun y w => walk1_any y w
  have HT1 := hide t1
  have HS1 := hide s1
  have HB1 := hide hB1
  obtain ⟨va, vc, rfl, hvc, _⟩ := hN.len
  have hst0 : W.heap.size < W1.heap.size := by omega
  clear hN hs h htx hB1 s1
  have HF1 := hide (fun (w : World) (hw : Below W1.heap.size W1 w) => (⟨(unhide HB1).trans (hw.mono (by omega)), (hw.cell (p := ⟨W.heap.size, 0, none⟩) hst0).trans (unhide HT1), by have := hw.size; omega⟩ : Below W.heap.size W w ∧ w.cell? ⟨W.heap.size, 0, none⟩ = some (.slice va l.length vc) ∧ W.heap.size < w.heap.size))
  have fnn := fnn35
  go_enter Tryz.func5, Tryz.ntmps5
  go_wp2_with (first
    | (go_at_call 9; refine (unhide HG).mono ?_; rintro e w2 ⟨rfl, hB2⟩; obtain ⟨a2, b2, c2'⟩ := unhide HF1 w2 hB2)
    | (go_at_call 15; refine (unhide HD w2 a2).mono ?_; rintro e w3 ⟨rfl, hB3⟩; have hB3' := hB2.trans (hB3.mono hB2.size); obtain ⟨a3, b3, c3'⟩ := unhide HF1 w3 hB3'; have hB4 : Below W1.heap.size W1 (w3.alloc (.cells #[.slice none 0 0] 27)) := hB3'.alloc hB3'.size _; obtain ⟨a4, b4, c4'⟩ := unhide HF1 _ hB4)
    | (go_at_call 16; refine (unhide HWK _ a4).mono ?_; rintro e w5 ⟨rfl, hB5⟩))
  have hz5 := hB5.size
  simp only [World.size_alloc] at hz5
  have z3 := hB3'.size
  have hB35 : Below w3.heap.size w3 w5 := ((Below.refl _ w3).alloc (Nat.le_refl _) _).trans (hB5.mono (by simp))
  have hB15 : Below W1.heap.size W1 w5 := hB3'.trans (hB35.mono z3)
  have hbw : Boxed w5 w3.heap.size 27 (.slice none 0 0) := (hB5.block w3.heap.size (by simp)).trans (one_new w3 _ 27)
  obtain ⟨w6, hw6⟩ : ∃ w6, w5.alloc (.cells #[.int .i64 0] 3) = w6 := ⟨_, rfl⟩
  have hz6 : w6.heap.size = w5.heap.size + 1 := by rw [← hw6]; simp
  have hB56 : Below w5.heap.size w5 w6 := by rw [← hw6]; exact (Below.refl _ w5).alloc (Nat.le_refl _) _
  have hx6 : Boxed w6 w5.heap.size 3 (.int .i64 0) := by rw [← hw6]; exact one_new w5 _ 3
  have HHD : Hid (∀ w, Below w6.heap.size w6 w → w.cell? ⟨W.heap.size, 0, none⟩ = some (.slice va l.length vc) ∧ w.cell? ⟨W.heap.size + 1, 0, none⟩ = some (.int .i64 st) ∧ w.cell? ⟨w3.heap.size, 0, none⟩ = some (.slice none 0 0) ∧ w.cell? ⟨w5.heap.size, 0, none⟩ = some (.int .i64 0) ∧ Below W.heap.size W w ∧ w6.heap.size ≤ w.heap.size) := fun w hw => by
    have h1 : Below w5.heap.size w5 w := hB56.trans (hw.mono (by omega))
    have h2 : Below W1.heap.size W1 w := hB15.trans (h1.mono (by omega))
    obtain ⟨g1, g2, g3⟩ := unhide HF1 w h2
    exact ⟨g2, Boxed.cell (show Boxed w (W.heap.size + 1) 3 _ from (h2.block _ (by omega)).trans (unhide HS1)), Boxed.cell (show Boxed w w3.heap.size 27 _ from (h1.block _ (by omega)).trans hbw), Boxed.cell (show Boxed w w5.heap.size 3 _ from (hw.block _ (by omega)).trans hx6), g1, hw.size⟩
  obtain ⟨Bb, hBb⟩ : ∃ Bb, w5.heap.size = Bb := ⟨_, rfl⟩
  obtain ⟨Bw, hBw⟩ : ∃ Bw, w3.heap.size = Bw := ⟨_, rfl⟩
  have hlt1 : W.heap.size < Bb := by omega
  have hlt2 : W.heap.size + 1 < Bb := by omega
  have hlt3 : Bw < Bb := by omega
  rw [hBb] at hz6 HHD
  rw [hBw] at HHD
  rw [hw6]
  rw [hBb, hBw]
  have hx34 := enter34
  clear hw6 hB5 hz5 hB4 a4 b4 c4' a3 b3 c3' hB3' a2 b2 c2' hB2 hBb hBw hB56 hx6 hbw hB35 hB15
  go_wp2
  go_loopw [8] (fun t8 wr => ∃ (tn : Nat), tn ≤ 2 ∧ t8 = .int .i64 (tn : Int) ∧ Below w6.heap.size w6 wr) (fun t8 _ => 2 - (intOf t8).toNat)
  case atStart => exact ⟨0, by omega, rfl, Below.refl _ _⟩
  case round =>
    obtain ⟨tn, htn, rfl, hBr⟩ := hrel
    obtain ⟨w0, hw0⟩ : ∃ w0, w0 = wr := ⟨_, rfl⟩
    subst hw0
    have hzr := hBr.size
    obtain ⟨f1, f2, f3, f4, f5, f6⟩ := unhide HHD w0 hBr
    have HF5 := hide f5
    have hbw0 : Bw < w0.heap.size := by omega
    have hbb0 : Bb < w0.heap.size := by omega
    have hs0 : W.heap.size + 1 < w0.heap.size := by omega
    have ht0 : W.heap.size < w0.heap.size := by omega
    by_cases hlt : tn < 2
    · have hlt' : (tn : Int) < 2 := by omega
      have HBA : Hid (Below w6.heap.size w6 ((w0.alloc (.cells #[.int .i64 0] 3)).alloc (.cells #[.bool true] 4))) := (hBr.alloc hzr _).alloc (by simp; omega) _
      go_wp2_with (go_at_call 34; refine (unhide HW1 _ _).mono ?_; rintro e w8 ⟨⟨u, rfl⟩, rfl⟩)
      exact ⟨⟨tn + 1, by omega, by go_num, unhide HBA⟩, by simp [intOf]; omega⟩
    · have hlt' : ¬ (tn : Int) < 2 := by omega
      obtain ⟨wb, hwb⟩ : ∃ wb, w0.alloc (.cells #[.int .i64 0] 3) = wb := ⟨_, rfl⟩
      have hzb : wb.heap.size = w0.heap.size + 1 := by rw [← hwb]; simp
      have hBb0 : Below w0.heap.size w0 wb := by rw [← hwb]; exact (Below.refl _ w0).alloc (Nat.le_refl _) _
      have bb1 : Boxed wb w0.heap.size 3 (.int .i64 0) := by rw [← hwb]; exact one_new w0 _ 3
      have HCL : Hid (∀ w, Below wb.heap.size wb w → w.cell? ⟨w0.heap.size, 0, none⟩ = some (.int .i64 0) ∧ w.cell? ⟨Bw, 0, none⟩ = some (.slice none 0 0) ∧ w.cell? ⟨W.heap.size + 1, 0, none⟩ = some (.int .i64 st) ∧ w.cell? ⟨W.heap.size, 0, none⟩ = some (.slice va l.length vc) ∧ w.cell? ⟨Bb, 0, none⟩ = some (.int .i64 0) ∧ Below W.heap.size W w) := fun w hw => by
        obtain ⟨g1, g2, g3, g4, g5, g6⟩ := unhide HHD w (hBr.trans ((hBb0.trans (hw.mono (by omega))).mono (by omega)))
        exact ⟨Boxed.cell (show Boxed w w0.heap.size 3 _ from (hw.block _ (by omega)).trans bb1), g3, g2, g1, g4, g5⟩
      have HDC : Hid (∀ w, Below wb.heap.size wb w → Calls Tryz.prog 19 #[.agg #[.slice va l.length vc]] w fun e w2 => e = .returned (.int .i64 0) ∧ Below wb.heap.size wb w2) := fun w hw => (unhide HDP w (unhide HCL w hw).2.2.2.2.2).mono fun e w' h => ⟨h.1, hw.trans (h.2.mono hw.size)⟩
      have HKC : Hid (∀ w, Below wb.heap.size wb w → Calls Tryz.prog 13 #[] w fun e w2 => e = .returned (.bool true) ∧ Below wb.heap.size wb w2) := fun w hw => (unhide HKN w).mono fun e w' h => ⟨h.1, hw.trans (h.2.mono hw.size)⟩
      have hmin : min (0 : Int) (max 1 st) = 0 := by omega
      have HWB := hide hwb
      clear hwb bb1 hBb0 hzb
      go_wp2_with (go_at_call 34; refine (unhide HW1 _ _).mono ?_; rintro e w8 ⟨⟨u, rfl⟩, rfl⟩)
      rw [unhide HWB]
      refine region_C (C := fun w' => Below wb.heap.size wb w') (by kernel_rfl) (by kernel_rfl) (Below.refl _ _).drew ?_
      repeat (first
        | go_big_quiet_skip
        | (go_big_quiet_want
           go_big_quiet_op
           first
             | go_big_quiet_on
             | (apply Exists.intro
                refine ⟨fun w hw => ?_, ?_⟩
                first
                  | rfl
                  | (go_at_call 19; exact unhide HDC w hw)
                  | (go_at_call 13; exact unhide HKC w hw)
                  | (obtain ⟨f1, f2, f3, f4, f5, f6⟩ := unhide HCL w hw
                     go_simp
                     first | done | rfl | exact ⟨rfl, rfl⟩)
                go_big_quiet_on)))
      refine wpQuiet_nil ?_
      intro w9 hw9
      have HB9 := hide (unhide HCL w9 hw9).2.2.2.2.2
      go_wp2
      go_ret
      exact ⟨rfl, unhide HB9⟩

set_option maxRecDepth 100000 in
set_option maxHeartbeats 4000000 in
theorem walks_law (W : World) (M : Nat) (v : Value) (l : List Nd) (st : Int) (hN : NodesR W M v l) (hM : M ≤ W.heap.size) :
    Calls Tryz.prog 5 #[.agg #[v], .int .i64 st] W fun e w' => e = .returned (.bool true) ∧ Below W.heap.size W w' := by
  obtain ⟨W1, hW1⟩ : ∃ W1, (W.alloc (.cells #[v] 24)).alloc (.cells #[.int .i64 st] 3) = W1 := ⟨_, rfl⟩
  have hB1 : Below W.heap.size W W1 := by rw [← hW1]; exact ((Below.refl _ W).alloc (Nat.le_refl _) _).alloc (by simp) _
  have t1 : W1.cell? ⟨W.heap.size, 0, none⟩ = some v := by
    rw [← hW1, Lib.cell_of_heap (rat_a2 W _ _)]; rfl
  have hz1 : W.heap.size < W1.heap.size := by rw [← hW1]; simp; omega
  have HG := hide (great_reach W1 M v l (hN.keep hB1 hM) (Nat.le_trans hM hB1.size))
  have HB1 := hide hB1
  have HN := hide hN
  cases ha : decide (3000 < szN l l.length) with
  | true =>
    rw [ha] at HG
    obtain ⟨va, vc, rfl, hvc, _⟩ := hN.len
    clear ha hN hB1
    go_enter Tryz.func5, Tryz.ntmps5
    go_wp2_with (go_at_call 9; refine (unhide HG).mono ?_; rintro e w2 ⟨rfl, hB2⟩)
    go_ret
    exact ⟨rfl, (unhide HB1).trans (hB2.mono (by omega))⟩
  | false =>
    have hal : szN l l.length ≤ 3000 := by simpa using ha
    have hNn := hN.nodes hal
    by_cases hc : (chkP l).2 = 0
    · exact walks_good W M v l st hNn hM hal hc
    · exact walks_bad W M v l st hNn hM hal hc
end Go.Proofs.YtoffpbaddehncaaGreatDoor

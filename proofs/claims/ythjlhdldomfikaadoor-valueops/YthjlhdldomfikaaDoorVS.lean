/- The law ValueOps, walked. -/
import Derived.LoopN
import Derived.Deep.CutRange
import Derived.Deep.RegionWith
import Derived.Deep.RegionHeld3
import Derived.Test.YthjlhdldomfikaaDoorVM
import Derived.Test.YthjlhdldomfikaaDoorVR
namespace Go.Proofs.YthjlhdldomfikaaDoor
set_option linter.unusedSimpArgs false
set_option linter.unusedVariables false
set_option maxRecDepth 100000
set_option maxHeartbeats 4000000
open Go.RowKit Go.Shelf

def opsRow : List Value := (List.range 16).map fun i => Value.string (opL i)
/-- What the loop keeps: the row of signs, both boxes. -/
def OpsI (W : World) (a b : Int) (wr : World) : Prop := (∀ k, k < 16 → wr.cell? ⟨W.heap.size, k, none⟩ = some (.string (opL k))) ∧ Bv wr (W.heap.size + 1) 3 a ⟨#[]⟩ ∧ Bv wr (W.heap.size + 1 + 1) 3 b ⟨#[]⟩ ∧ Below W.heap.size W wr
theorem OpsI.up {W w w' : World} {a b : Int} (h : OpsI W a b w) (hb : Below w.heap.size w w') : OpsI W a b w' :=
  ⟨fun k hk => (hb.cell (p := ⟨W.heap.size, k, none⟩) (World.block_lt_of_cell? w _ (h.1 k hk))).trans (h.1 k hk), h.2.1.up hb, h.2.2.1.up hb, Below.up h.2.2.2 hb⟩
theorem Bx.newa (w : World) (cs : Array Value) (t : Nat) : Bx (w.drew.alloc (.cells cs t)) w.heap.size cs t := Bx.new w.drew cs t
theorem Bx.newb (w : World) (cs : Array Value) (t : Nat) : Bx (w.alloc (.cells cs t)).drew w.heap.size cs t := Bx.new w cs t
theorem boxa {w w1 : World} {cs : Array Value} {t B : Nat} (h : Below B (w.drew.alloc (.cells cs t)) w1) (hB : w.heap.size < B) : Bx w1 w.heap.size cs t := Bx.below (Bx.newa w cs t) h hB
theorem boxb {w w1 : World} {cs : Array Value} {t B : Nat} (h : Below B (w.alloc (.cells cs t)).drew w1) (hB : w.heap.size < B) : Bx w1 w.heap.size cs t := Bx.below (Bx.newb w cs t) h hB
theorem belowa {w w1 : World} {o : Obj} {B : Nat} (h : Below B (w.drew.alloc o) w1) (hB : w.heap.size ≤ B) : Below w.heap.size w w1 := ((Below.refl _ w).drew.alloc (Nat.le_refl _) o).trans (h.mono hB)
theorem belowb {w w1 : World} {o : Obj} {B : Nat} (h : Below B (w.alloc o).drew w1) (hB : w.heap.size ≤ B) : Below w.heap.size w w1 := ((Below.refl _ w).alloc (Nat.le_refl _) o).drew.trans (h.mono hB)
theorem belowc {w w1 : World} {B : Nat} (h : Below B w.drew w1) (hB : w.heap.size ≤ B) : Below w.heap.size w w1 := (Below.refl _ w).drew.trans (h.mono hB)
theorem below_set5 {a w : World} {x y z u v : Value} (h : Below a.heap.size a w) : Below a.heap.size a (((((w.setCell ⟨a.heap.size, 0, none⟩ x).setCell ⟨a.heap.size, 1, none⟩ y).setCell ⟨a.heap.size, 2, none⟩ z).setCell ⟨a.heap.size, 3, none⟩ u).setCell ⟨a.heap.size, 4, none⟩ v) := below_put5 h (Nat.le_refl _) x y z u v
theorem ops_start (W : World) (a b : Int) : OpsI W a b (((W.alloc (.cells #[.string ⟨#[43]⟩, .string ⟨#[45]⟩, .string ⟨#[42]⟩, .string ⟨#[37]⟩, .string ⟨#[38]⟩, .string ⟨#[124]⟩, .string ⟨#[94]⟩, .string ⟨#[60, 60]⟩, .string ⟨#[62, 62]⟩, .string ⟨#[62, 62, 62]⟩, .string ⟨#[60]⟩, .string ⟨#[60, 61]⟩, .string ⟨#[62]⟩, .string ⟨#[62, 61]⟩, .string ⟨#[61, 61, 61]⟩, .string ⟨#[33, 61, 61]⟩] 9)).alloc (.cells #[.int .i64 3, .int .i64 a, .string ⟨#[]⟩] 23)).alloc (.cells #[.int .i64 3, .int .i64 b, .string ⟨#[]⟩] 23)) := by
  refine ⟨fun k hk => ?_, ?_, ?_, below_three _ _ _ _⟩
  · have h1 : Bx (((W.alloc (.cells #[.string ⟨#[43]⟩, .string ⟨#[45]⟩, .string ⟨#[42]⟩, .string ⟨#[37]⟩, .string ⟨#[38]⟩, .string ⟨#[124]⟩, .string ⟨#[94]⟩, .string ⟨#[60, 60]⟩, .string ⟨#[62, 62]⟩, .string ⟨#[62, 62, 62]⟩, .string ⟨#[60]⟩, .string ⟨#[60, 61]⟩, .string ⟨#[62]⟩, .string ⟨#[62, 61]⟩, .string ⟨#[61, 61, 61]⟩, .string ⟨#[33, 61, 61]⟩] 9)).alloc (.cells #[.int .i64 3, .int .i64 a, .string ⟨#[]⟩] 23)).alloc (.cells #[.int .i64 3, .int .i64 b, .string ⟨#[]⟩] 23)) W.heap.size _ 9 := ((Bx.new W _ 9).alloc _).alloc _
    have hc : k = 0 ∨ k = 1 ∨ k = 2 ∨ k = 3 ∨ k = 4 ∨ k = 5 ∨ k = 6 ∨ k = 7 ∨ k = 8 ∨ k = 9 ∨ k = 10 ∨ k = 11 ∨ k = 12 ∨ k = 13 ∨ k = 14 ∨ k = 15 := by omega
    rcases hc with rfl | rfl | rfl | rfl | rfl | rfl | rfl | rfl | rfl | rfl | rfl | rfl | rfl | rfl | rfl | rfl <;> exact h1.cell _ rfl
  · have := Bx.new (W.alloc (.cells #[.string ⟨#[43]⟩, .string ⟨#[45]⟩, .string ⟨#[42]⟩, .string ⟨#[37]⟩, .string ⟨#[38]⟩, .string ⟨#[124]⟩, .string ⟨#[94]⟩, .string ⟨#[60, 60]⟩, .string ⟨#[62, 62]⟩, .string ⟨#[62, 62, 62]⟩, .string ⟨#[60]⟩, .string ⟨#[60, 61]⟩, .string ⟨#[62]⟩, .string ⟨#[62, 61]⟩, .string ⟨#[61, 61, 61]⟩, .string ⟨#[33, 61, 61]⟩] 9)) (Vc 3 a ⟨#[]⟩) 23
    rw [World.size_alloc] at this
    exact this.alloc _
  · have := Bx.new ((W.alloc (.cells #[.string ⟨#[43]⟩, .string ⟨#[45]⟩, .string ⟨#[42]⟩, .string ⟨#[37]⟩, .string ⟨#[38]⟩, .string ⟨#[124]⟩, .string ⟨#[94]⟩, .string ⟨#[60, 60]⟩, .string ⟨#[62, 62]⟩, .string ⟨#[62, 62, 62]⟩, .string ⟨#[60]⟩, .string ⟨#[60, 61]⟩, .string ⟨#[62]⟩, .string ⟨#[62, 61]⟩, .string ⟨#[61, 61, 61]⟩, .string ⟨#[33, 61, 61]⟩] 9)).alloc (.cells #[.int .i64 3, .int .i64 a, .string ⟨#[]⟩] 23)) (Vc 3 b ⟨#[]⟩) 23
    rw [World.size_alloc, World.size_alloc] at this
    exact this
theorem new5d (w : World) : ∃ W2, w.drew.alloc (.cells #[.int .i64 0, .int .i64 0, .string ⟨#[]⟩, .string ⟨#[]⟩, .int .i64 0] 28) = W2 ∧ (W2.cell? ⟨w.heap.size, 0, none⟩ = some (.int .i64 0) ∧ W2.cell? ⟨w.heap.size, 1, none⟩ = some (.int .i64 0) ∧ W2.cell? ⟨w.heap.size, 2, none⟩ = some (.string ⟨#[]⟩) ∧ W2.cell? ⟨w.heap.size, 3, none⟩ = some (.string ⟨#[]⟩) ∧ W2.cell? ⟨w.heap.size, 4, none⟩ = some (.int .i64 0)) ∧ Bo W2 w.heap.size 0 0 ⟨#[]⟩ ⟨#[]⟩ 0 ∧ Below w.heap.size w W2 := by
  have h := Bx.newa w (Oc 0 0 ⟨#[]⟩ ⟨#[]⟩ 0) 28
  exact ⟨_, rfl, ⟨h.cell 0 rfl, h.cell 1 rfl, h.cell 2 rfl, h.cell 3 rfl, h.cell 4 rfl⟩, h, (Below.refl _ w).drew.alloc (Nat.le_refl _) _⟩
theorem over5 (w : World) (b : Nat) (k n f : Int) (t s : ByteArray) (h : Bo w b 0 0 ⟨#[]⟩ ⟨#[]⟩ 0) : ∃ W3, ((((w.setCell ⟨b, 0, none⟩ (.int .i64 k)).setCell ⟨b, 1, none⟩ (.int .i64 n)).setCell ⟨b, 2, none⟩ (.string t)).setCell ⟨b, 3, none⟩ (.string s)).setCell ⟨b, 4, none⟩ (.int .i64 f) = W3 ∧ Bo W3 b k n t s f ∧ (∀ B a, Below B a w → B ≤ b → Below B a W3) :=
  ⟨_, rfl, Bx.puts5 h _ _ _ _ _, fun B a hb hB => below_put5 hb hB _ _ _ _ _⟩
theorem valueOps_any (a b : Int) : Ret 5 #[.int .i64 a, .int .i64 b] (.bool true) := by
  intro W
  have HK := hide known_any
  have HP : Hid (∀ k, k < 16 → Ret 12 #[.string (opL k), .agg #[.int .i64 3, .int .i64 a, .string ⟨#[]⟩], .agg #[.int .i64 3, .int .i64 b, .string ⟨#[]⟩]] (binN (opL k) (clampN a) (clampN b)).tr) := fun k _ => Binary_num (opL k) a b ⟨#[]⟩ ⟨#[]⟩
  have HR : Hid (∀ k, k < 16 → Ret 13 #[.string (opL k), .agg #[.int .i64 3, .int .i64 a, .string ⟨#[]⟩], .agg #[.int .i64 3, .int .i64 b, .string ⟨#[]⟩]] (binN (opL k) (clampN a) (clampN b)).oc) := fun k hk => rBin_num a b ⟨#[]⟩ ⟨#[]⟩ k hk
  go_enter Tryd.func5, Tryd.ntmps5
  go_wp2
  go_loopw [8] (fun t wr => ∃ k : Nat, k ≤ 16 ∧ t = .int .i64 (k : Int) ∧ OpsI W a b wr) (fun t _ => 16 - (intOf t).toNat)
  case atStart => exact ⟨0, by omega, rfl, ops_start W a b⟩
  case round =>
    obtain ⟨k, hk, rfl, hI⟩ := hrel
    obtain ⟨x0, x1, x2, -, -, -, lx⟩ := hI.2.1.all
    obtain ⟨y0, y1, y2, -, -, -, ly⟩ := hI.2.2.1.all
    have lw : W.heap.size < wr.heap.size := by omega
    by_cases hlt : k < 16
    · have hlt' : (k : Int) < 16 := by omega
      have hcell := hI.1 k hlt
      have H1 := unhide HP k hlt
      have H2 := unhide HR k hlt
      obtain ⟨op, hop⟩ : ∃ s, opL k = s := ⟨_, rfl⟩
      rw [hop] at hcell H1 H2
      obtain ⟨⟨rk, rn, rt, rs, rf⟩, hr⟩ : ∃ r, binN op (clampN a) (clampN b) = r := ⟨_, rfl⟩
      rw [hr] at H1 H2
      have HU := hide H1
      have HV := hide H2
      have HI := hide hI
      have HOP := hide hop
      unfold R5.tr Tr Vc at HU
      unfold R5.oc Oc at HV
      dsimp only at HU HV
      clear H1 H2 hr
      have HSS := hide (fun w' (hw : Below wr.heap.size wr w') => And.intro (hop ▸ (hI.up hw).1 k hlt : w'.cell? ⟨W.heap.size, k, none⟩ = some (.string op)) (And.intro (let q := (hI.up hw).2.1.all; And.intro q.1 (And.intro q.2.1 q.2.2.1)) (let q := (hI.up hw).2.2.1.all; And.intro q.1 (And.intro q.2.1 q.2.2.1))))
      clear hI hop
      go_upto_region 8 with fail
      go_cut [9, 10, 11] from 28 to 38 (fun s9 s10 s11 wx => ∃ b4, s9 = .pointer (some ⟨b4, 0, none⟩) ∧ s10 = .string rs ∧ s11 = .int .i64 rf ∧ Bv wx b4 rk rn rt ∧ OpsI W a b wx)
      case first =>
        go_region_held3 (fun w' => (w'.cell? ⟨W.heap.size, k, none⟩ = some (.string op)) ∧ (w'.cell? ⟨W.heap.size + 1, 0, none⟩ = some (.int .i64 3) ∧ w'.cell? ⟨W.heap.size + 1, 1, none⟩ = some (.int .i64 a) ∧ w'.cell? ⟨W.heap.size + 1, 2, none⟩ = some (.string ⟨#[]⟩)) ∧ (w'.cell? ⟨W.heap.size + 1 + 1, 0, none⟩ = some (.int .i64 3) ∧ w'.cell? ⟨W.heap.size + 1 + 1, 1, none⟩ = some (.int .i64 b) ∧ w'.cell? ⟨W.heap.size + 1 + 1, 2, none⟩ = some (.string ⟨#[]⟩)))
          (with_reducible first
            | assumption
            | exact unhide HSS _ (Below.refl _ _)
            | exact unhide HSS _ (Below.refl _ _).drew
            | exact unhide HSS _ ((Below.refl _ _).alloc (Nat.le_refl _) _)
            | exact unhide HSS _ ((Below.refl _ _).alloc (Nat.le_refl _) _).drew
            | exact unhide HSS _ (unhide HB1)
            | exact unhide HSS _ ((unhide HB1).alloc (unhide HB1).size _)
            | exact unhide HSS _ ((((unhide HB1).setCell (Nat.le_refl _) _).setCell (Nat.le_refl _) _).setCell (Nat.le_refl _) _))
          ((go_at_call 12
            refine (unhide HU _).mono ?_
            rintro e w1 ⟨rfl, hb1⟩
            (try
              have E1 : Bx w1 wr.heap.size #[.int .i64 0, .int .i64 0, .string ⟨#[]⟩] 23 := (by with_reducible first | exact boxa hb1 (by simp) | exact boxb hb1 (by simp))
              have E0 : Bv w1 wr.heap.size 0 0 ⟨#[]⟩ := E1
              obtain ⟨d0, d1, d2, g0, g1, g2, ld⟩ := E0.all
              have EE := hide E0
              clear E0 E1)
            have HB1 := hide (show Below wr.heap.size wr w1 from (by with_reducible first | exact belowa hb1 (by simp) | exact belowb hb1 (by simp) | exact belowc hb1 (by simp)))
            obtain ⟨hcell, ⟨x0, x1, x2⟩, ⟨y0, y1, y2⟩⟩ := unhide HSS _ (unhide HB1)
            clear hb1))
        all_goals (go_wp2_with fail; go_meet; case rel => (first
          | exact ⟨wr.heap.size, rfl, rfl, rfl, Bx.puts (unhide EE) _ _ _, (unhide HI).up (below_put3 (unhide HB1) (Nat.le_refl _) _ _ _)⟩
          | exact ⟨w1.heap.size, rfl, rfl, rfl, Bx.new _ _ _, (unhide HI).up (Below.up (unhide HB1) (below_one _ _))⟩))
      case rest =>
        obtain ⟨b4, rfl, rfl, rfl, hb4, hI4⟩ := hcut
        clear HSS HU hcell x0 x1 x2 y0 y1 y2 lx ly lw
        have hJ := hide hI4
        have HB4 := hide hb4
        obtain ⟨x0, x1, x2, -, -, -, lx⟩ := hI4.2.1.all
        obtain ⟨y0, y1, y2, -, -, -, ly⟩ := hI4.2.2.1.all
        have hcell : wc.cell? ⟨W.heap.size, k, none⟩ = some (.string op) := by rw [← unhide HOP]; exact hI4.1 k hlt
        have lw : W.heap.size < wc.heap.size := by omega
        have HSS := hide (fun w' (hw : Below wc.heap.size wc w') => And.intro (unhide HOP ▸ (hI4.up hw).1 k hlt : w'.cell? ⟨W.heap.size, k, none⟩ = some (.string op)) (And.intro (let q := (hI4.up hw).2.1.all; And.intro q.1 (And.intro q.2.1 q.2.2.1)) (let q := (hI4.up hw).2.2.1.all; And.intro q.1 (And.intro q.2.1 q.2.2.1))))
        clear hI4 hb4
        go_upto_region 9 with fail
        go_cut [12] from 39 to 45 (fun s12 wx => ∃ b5, s12 = .pointer (some ⟨b5, 0, none⟩) ∧ Bo wx b5 rk rn rt rs rf ∧ Bv wx b4 rk rn rt ∧ OpsI W a b wx)
        case first =>
          obtain ⟨w5, hw5, ⟨d0, d1, d2, d3, d4⟩, hx5, hb5⟩ := new5d wc
          have HX5 := hide hx5
          have HB5 := hide hb5
          have HD5 := hide (Below.refl wc.heap.size wc).drew
          obtain ⟨q0, ⟨q1, q2, q3⟩, ⟨q4, q5, q6⟩⟩ := unhide HSS w5 hb5
          clear hx5 hb5
          go_region_held3 (fun w' => (w'.cell? ⟨W.heap.size, k, none⟩ = some (.string op)) ∧ (w'.cell? ⟨W.heap.size + 1, 0, none⟩ = some (.int .i64 3) ∧ w'.cell? ⟨W.heap.size + 1, 1, none⟩ = some (.int .i64 a) ∧ w'.cell? ⟨W.heap.size + 1, 2, none⟩ = some (.string ⟨#[]⟩)) ∧ (w'.cell? ⟨W.heap.size + 1 + 1, 0, none⟩ = some (.int .i64 3) ∧ w'.cell? ⟨W.heap.size + 1 + 1, 1, none⟩ = some (.int .i64 b) ∧ w'.cell? ⟨W.heap.size + 1 + 1, 2, none⟩ = some (.string ⟨#[]⟩)))
            (with_reducible first
              | assumption
              | exact unhide HSS _ (unhide HB7)
              | exact unhide HSS _ (unhide HB1)
              | exact unhide HSS _ (unhide HB5)
              | exact unhide HSS _ (unhide HD5)
              | exact unhide HSS _ (Below.refl _ _)
              | exact unhide HSS _ (Below.refl _ _).drew
              | exact unhide HSS _ ((unhide HB1).alloc (unhide HB1).size _))
            ((go_at_call 13
              first
              | (refine (unhide HV w5).mono ?_
                 rintro e w1 ⟨rfl, hb1⟩
                 have hx1 := (unhide HX5).below hb1 (Bx.lt (unhide HX5))
                 have hbb := Below.up (unhide HB5) hb1
                 obtain ⟨w7, hw7, e1, e2⟩ := over5 w1 wc.heap.size rk rn rf rt rs hx1
                 have HE := hide e1
                 have HB1 := hide hbb
                 have HB7 := hide (e2 _ _ hbb (Nat.le_refl _))
                 obtain ⟨d0, d1, d2, d3, d4, g0, g1, g2, g3, g4, ld⟩ := hx1.all
                 obtain ⟨hcell, ⟨x0, x1, x2⟩, ⟨y0, y1, y2⟩⟩ := unhide HSS _ hbb
                 clear hb1 hx1 hbb e1 e2)
              | (refine (unhide HV wc.drew).mono ?_
                 rintro e w1 ⟨rfl, hb1⟩
                 have hbb := (unhide HD5).trans hb1
                 have HB1 := hide hbb
                 obtain ⟨hcell, ⟨x0, x1, x2⟩, ⟨y0, y1, y2⟩⟩ := unhide HSS _ hbb
                 clear hb1 hbb)))
          all_goals (go_wp2_with fail; go_meet; case rel => (first
            | exact ⟨wc.heap.size, rfl, unhide HE, (unhide HB4).up (unhide HB7), (unhide hJ).up (unhide HB7)⟩
            | exact ⟨w1.heap.size, rfl, Bx.new _ _ _, (unhide HB4).up (Below.up (unhide HB1) (below_one _ _)), (unhide hJ).up (Below.up (unhide HB1) (below_one _ _))⟩))
        case rest =>
          obtain ⟨b5, rfl, hb5, hb4, hI5⟩ := hcut
          have hJ5 := hide hI5
          obtain ⟨d0, d1, d2, -, -, -, ld⟩ := hb4.all
          obtain ⟨e0, e1, e2, e3, e4, -, -, -, -, -, le⟩ := hb5.all
          clear HSS hcell x0 x1 x2 y0 y1 y2 lx ly lw hI5 hb4 hb5
          go_wp2
          exact ⟨⟨k + 1, by omega, by go_num, unhide hJ5⟩, by simp [intOf]; omega⟩
    · obtain rfl : k = 16 := by omega
      have H1 := Unary_any ⟨#[126]⟩ 3 a ⟨#[]⟩
      have H2 := rUnary_any ⟨#[126]⟩ 3 a ⟨#[]⟩
      obtain ⟨⟨rk, rn, rt, rs, rf⟩, hr⟩ : ∃ r, unP ⟨#[126]⟩ (stlK 3) (stlN 3 a) (stlT 3 ⟨#[]⟩) = r := ⟨_, rfl⟩
      rw [hr] at H1 H2
      have HU := hide H1
      have HV := hide H2
      unfold R5.tr Tr Vc at HU
      unfold R5.oc Oc Vc at HV
      dsimp only at HU HV
      have X1 := hide hI.2.1
      have HB := hide hI.2.2.2
      clear H1 H2 hr hI
      go_wp2_with (first
        | (go_at_call 10
           refine (unhide HU _).mono ?_
           rintro e w2 ⟨rfl, hb2⟩
           obtain ⟨W3, hW3, e1, e3, e4⟩ := new_box w2 rk rn rt
           have q := Below.up hb2 e3
           have X1 := hide ((unhide X1).up q)
           have X3 := hide e1
           obtain ⟨x0, x1, x2, y0, y1, y2, ly⟩ := (unhide X1).all
           have HB3 := hide (Below.up (unhide HB) q)
           clear hb2 e1 e3 e4 q)
        | (go_at_call 11
           refine (unhide HV _).mono ?_
           rintro e w4 ⟨rfl, hb4⟩
           obtain ⟨W5, hW5, e1, e3, e4⟩ := new_out w4 rk rn rf rt rs
           have q := Below.up hb4 e3
           obtain ⟨x0, x1, x2, y0, y1, y2, ly⟩ := ((unhide X3).up q).all
           obtain ⟨d0, d1, d2, d3, d4, g0, g1, g2, g3, g4, lt'⟩ := e1.all
           have HB5 := hide (Below.up (unhide HB3) q)
           clear hb4 e1 e3 e4 q)
        | (go_at_call 9; refine (unhide HK _).mono ?_; rintro e w6 ⟨rfl, hb6⟩; have HB6 := hide (Below.up (unhide HB5) hb6)))
      go_ret
      exact ⟨rfl, unhide HB6⟩
end Go.Proofs.YthjlhdldomfikaaDoor

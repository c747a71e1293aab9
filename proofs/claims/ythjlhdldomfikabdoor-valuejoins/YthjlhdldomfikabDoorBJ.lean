/- The law ValueJoins, walked. -/
import Derived.LoopTactic
import Derived.Deep.CutRange
import Derived.Deep.RegionHeld3
import Derived.Test.YthjlhdldomfikabDoorBJ3
import Derived.Test.YthjlhdldomfikabDoorVJ
import Derived.Test.YthjlhdldomfikabDoorVK
namespace Go.Proofs.YthjlhdldomfikabDoor
set_option linter.unusedSimpArgs false
set_option linter.unusedVariables false
set_option maxRecDepth 100000
set_option maxHeartbeats 4000000
open Go.RowKit Go.Shelf

theorem Bx.newa (w : World) (cs : Array Value) (t : Nat) : Bx (w.drew.alloc (.cells cs t)) w.heap.size cs t := Bx.new w.drew cs t
theorem new3d (w : World) : ∃ W2, w.drew.alloc (.cells #[.int .i64 0, .int .i64 0, .string ⟨#[]⟩] 25) = W2 ∧ (W2.cell? ⟨w.heap.size, 0, none⟩ = some (.int .i64 0) ∧ W2.cell? ⟨w.heap.size, 1, none⟩ = some (.int .i64 0) ∧ W2.cell? ⟨w.heap.size, 2, none⟩ = some (.string ⟨#[]⟩)) ∧ Bv W2 w.heap.size 0 0 ⟨#[]⟩ ∧ Below w.heap.size w W2 := by
  have h := Bx.newa w (Vc 0 0 ⟨#[]⟩) 25
  exact ⟨_, rfl, ⟨h.cell 0 rfl, h.cell 1 rfl, h.cell 2 rfl⟩, h, (Below.refl _ w).drew.alloc (Nat.le_refl _) _⟩
theorem new3e (w : World) : ∃ W2, w.alloc (.cells #[.int .i64 0, .int .i64 0, .string ⟨#[]⟩] 25) = W2 ∧ (W2.cell? ⟨w.heap.size, 0, none⟩ = some (.int .i64 0) ∧ W2.cell? ⟨w.heap.size, 1, none⟩ = some (.int .i64 0) ∧ W2.cell? ⟨w.heap.size, 2, none⟩ = some (.string ⟨#[]⟩)) ∧ Bv W2 w.heap.size 0 0 ⟨#[]⟩ ∧ Below w.heap.size w W2 := by
  have h := Bx.new w (Vc 0 0 ⟨#[]⟩) 25
  exact ⟨_, rfl, ⟨h.cell 0 rfl, h.cell 1 rfl, h.cell 2 rfl⟩, h, (Below.refl _ w).alloc (Nat.le_refl _) _⟩
theorem over3 (w : World) (b : Nat) (k n : Int) (t : ByteArray) (h : Bv w b 0 0 ⟨#[]⟩) : ∃ W3, ((w.setCell ⟨b, 0, none⟩ (.int .i64 k)).setCell ⟨b, 1, none⟩ (.int .i64 n)).setCell ⟨b, 2, none⟩ (.string t) = W3 ∧ Bv W3 b k n t ∧ (∀ B a, Below B a w → B ≤ b → Below B a W3) :=
  ⟨_, rfl, Bx.puts h _ _ _, fun B a hb hB => below_put3 hb hB _ _ _⟩
/-- Both texts' boxes. -/
def K2 (W : World) (a b : ByteArray) (w : World) : Prop := Bv w W.heap.size 4 0 a ∧ Bv w (W.heap.size + 1) 4 0 b ∧ Below W.heap.size W w
theorem K2.up {W w w' : World} {a b : ByteArray} (h : K2 W a b w) (hb : Below w.heap.size w w') : K2 W a b w' := ⟨h.1.up hb, h.2.1.up hb, Below.up h.2.2 hb⟩
theorem two_txt (W : World) (a b : ByteArray) : ∃ W2, (W.alloc (.cells #[.int .i64 4, .int .i64 0, .string a] 25)).alloc (.cells #[.int .i64 4, .int .i64 0, .string b] 25) = W2 ∧ K2 W a b W2 ∧ W2.heap.size = W.heap.size + 2 := by
  refine ⟨_, rfl, ⟨(Bx.new W _ _).alloc _, ?_, below_two _ _ _⟩, by simp⟩
  have := Bx.new (W.alloc (.cells #[.int .i64 4, .int .i64 0, .string a] 25)) (Vc 4 0 b) 25
  rw [World.size_alloc] at this
  exact this
theorem joins_main (a b p r J D : ByteArray) (n : Int) (W : World) (ha : a.size + b.size ≤ 2000) (hd : D.size ≤ 17) (h0 : -9007199254740991 ≤ n) (h1 : n ≤ 9007199254740991) (hD : a ++ D ++ b = J)
    (HP : RetA W 8 #[.string ⟨#[43]⟩, .agg (Vc 4 0 a), .agg (Vc 3 n ByteArray.empty)] (Tr 4 0 p ⟨#[]⟩ 0)) (HQ : RetA W 8 #[.string ⟨#[43]⟩, .agg (Vc 4 0 p), .agg (Vc 4 0 b)] (Tr 4 0 J ⟨#[]⟩ 0))
    (HR : RetA W 8 #[.string ⟨#[43]⟩, .agg (Vc 3 n ByteArray.empty), .agg (Vc 4 0 b)] (Tr 4 0 r ⟨#[]⟩ 0)) (HS : RetA W 8 #[.string ⟨#[43]⟩, .agg (Vc 4 0 a), .agg (Vc 4 0 r)] (Tr 4 0 J ⟨#[]⟩ 0))
    (HT : RetA W 11 #[.agg (Vc 3 n ByteArray.empty)] (.string D)) : Calls Tryd.prog 6 #[.string a, .string b, .int .i64 n] W fun e w' => e = .returned (.bool true) ∧ Below W.heap.size W w' := by
  obtain ⟨W2, hW2, k2, hz⟩ := two_txt W a b
  have HN := hide (num_any n)
  unfold Tr at HP HQ HR HS
  unfold Vc at HP HQ HR HS HT HN
  have HP := hide HP
  have HQ := hide HQ
  have HR := hide HR
  have HS := hide HS
  have HT := hide HT
  have HKN := hide known_any
  have K0 := hide k2
  have AD1 : Hid (∀ w, Sem.run Tryd.prog (Op.stringOp BinOp.add a D) w = Result.ok (Value.string (a ++ D)) w) := fun w => run_string_add_sum w a D (by omega)
  have AD2 : Hid (∀ w, Sem.run Tryd.prog (Op.stringOp BinOp.add (a ++ D) b) w = Result.ok (Value.string J) w) := fun w => by
    have e : (a ++ D).size = a.size + D.size := ByteArray.size_append
    rw [← hD]
    exact run_string_add_sum w (a ++ D) b (by omega)
  have g1 : ¬ ((2000 : Int) < (a.size : Int) + (b.size : Int)) := by omega
  have g2 : ¬ ((9007199254740991 : Int) < n) := by omega
  have g3 : ¬ (n < (-9007199254740991 : Int)) := by omega
  have ga : (a.size : Int) ≤ 2000 := by omega
  have gb : (b.size : Int) ≤ 2000 := by omega
  have gd : (D.size : Int) ≤ 17 := by omega
  clear k2 hD ha h0 h1 hz hd
  go_enter Tryd.func6, Tryd.ntmps6
  go_upto_region 5 with fail
  have HSS : Hid (∀ w', Below W2.heap.size W2 w' → w'.cell? ⟨W.heap.size, 0, none⟩ = some (.int .i64 4) ∧ w'.cell? ⟨W.heap.size, 1, none⟩ = some (.int .i64 0) ∧ w'.cell? ⟨W.heap.size, 2, none⟩ = some (.string a)) := fun w' h => by
    obtain ⟨e0, e1, e2, _, _, _, _⟩ := ((unhide K0).up h).1.all
    exact ⟨e0, e1, e2⟩
  obtain ⟨c0, c1, c2⟩ := unhide HSS _ (Below.refl _ _)
  go_cut [9, 10, 11] from 41 to 47 (fun s1 s2 s3 wx => ∃ bp, s1 = .pointer (some ⟨bp, 0, none⟩) ∧ s2 = .string ⟨#[]⟩ ∧ s3 = .int .i64 0 ∧ Bv wx bp 4 0 p ∧ K2 W a b wx)
  case first =>
    obtain ⟨w1, hw1, ⟨d0, d1, d2⟩, hx1, hb1⟩ := new3d W2
    have HX1 := hide hx1
    have HB1 := hide hb1
    have HD := hide (Below.refl W2.heap.size W2).drew
    have KA1 := hide (Below.up (unhide K0).2.2 hb1)
    have KAD := hide ((unhide K0).2.2).drew
    obtain ⟨q0, q1, q2⟩ := unhide HSS w1 hb1
    clear hx1 hb1
    go_region_held3 (fun w' => w'.cell? ⟨W.heap.size, 0, none⟩ = some (.int .i64 4) ∧ w'.cell? ⟨W.heap.size, 1, none⟩ = some (.int .i64 0) ∧ w'.cell? ⟨W.heap.size, 2, none⟩ = some (.string a))
      (with_reducible first
        | assumption
        | exact unhide HSS _ (unhide HB7)
        | exact unhide HSS _ (unhide HB5)
        | exact unhide HSS _ (unhide HB4)
        | exact unhide HSS _ (unhide HB3)
        | exact unhide HSS _ (unhide HB2)
        | exact unhide HSS _ (unhide HB1)
        | exact unhide HSS _ (unhide HD)
        | exact unhide HSS _ (Below.refl _ _)
        | exact unhide HSS _ ((unhide HB5).alloc (unhide HB5).size _))
      ((first
        | (go_at_call 8
           refine (unhide HP w2 (unhide KA2)).mono ?_
           rintro e w5 ⟨rfl, q5⟩
           have hbb := Below.up (unhide HB2) q5
           have hx5 := Bv.up (unhide HX2) q5
           obtain ⟨w7, hw7, e1, e2⟩ := over3 w5 W2.heap.size 4 0 p hx5
           have HE := hide e1
           have HB5 := hide hbb
           have HB7 := hide (e2 _ _ hbb (Nat.le_refl _))
           obtain ⟨d0, d1, d2, g0, g1, g2, ld⟩ := hx5.all
           obtain ⟨c0, c1, c2⟩ := unhide HSS _ hbb
           clear q5 hbb hx5 e1 e2)
        | (go_at_call 8
           refine (unhide HP w4 (unhide KA4)).mono ?_
           rintro e w5 ⟨rfl, q5⟩
           have hbb := Below.up (unhide HB4) q5
           have hx5 := Bv.up (unhide HX4) q5
           obtain ⟨w7, hw7, e1, e2⟩ := over3 w5 w3.heap.size 4 0 p hx5
           have HE := hide e1
           have HB5 := hide hbb
           have HB7 := hide (e2 _ _ hbb (unhide HB3).size)
           obtain ⟨d0, d1, d2, g0, g1, g2, ld⟩ := hx5.all
           obtain ⟨c0, c1, c2⟩ := unhide HSS _ hbb
           clear q5 hbb hx5 e1 e2)
        | (go_at_call 8
           refine (unhide HP w3 (unhide KA3)).mono ?_
           rintro e w5 ⟨rfl, q5⟩
           have hbb := Below.up (unhide HB3) q5
           have HB5 := hide hbb
           obtain ⟨c0, c1, c2⟩ := unhide HSS _ hbb
           clear q5 hbb)
        | (go_at_call 9
           refine (unhide HN w1).mono ?_
           rintro e w2 ⟨rfl, q2⟩
           have hbb := Below.up (unhide HB1) q2
           have HX2 := hide (Bv.up (unhide HX1) q2)
           have HB2 := hide hbb
           have KA2 := hide (Below.up (unhide K0).2.2 hbb)
           obtain ⟨d0, d1, d2, g0, g1, g2, ld⟩ := Bv.all (unhide HX2)
           obtain ⟨c0, c1, c2⟩ := unhide HSS _ hbb
           clear q2 hbb)
        | (go_at_call 9
           refine (unhide HN W2.drew).mono ?_
           rintro e w3 ⟨rfl, q3⟩
           have hbb := (unhide HD).trans q3
           have HB3 := hide hbb
           have KA3 := hide (Below.up (unhide K0).2.2 hbb)
           obtain ⟨w4, hw4, ⟨d0, d1, d2⟩, hx4, hb4⟩ := new3e w3
           have HX4 := hide hx4
           have HB4 := hide (Below.up hbb hb4)
           have KA4 := hide (Below.up (unhide K0).2.2 (Below.up hbb hb4))
           obtain ⟨i0, i1, i2⟩ := unhide HSS _ (unhide HB4)
           obtain ⟨c0, c1, c2⟩ := unhide HSS _ hbb
           clear q3 hbb hx4 hb4)))
    all_goals (go_wp2_with fail; go_meet; case rel => (first
      | exact ⟨_, rfl, rfl, rfl, unhide HE, (unhide K0).up (unhide HB7)⟩
      | exact ⟨w5.heap.size, rfl, rfl, rfl, Bx.new _ _ _, (unhide K0).up (Below.up (unhide HB5) (below_one _ _))⟩))
  case rest =>
    obtain ⟨bp, rfl, rfl, rfl, hbp, hk5⟩ := hcut
    have K5 := hide hk5
    have P5 := hide hbp
    obtain ⟨x0, x1, x2, -, -, -, lx⟩ := hbp.all
    obtain ⟨y0, y1, y2, -, -, -, ly⟩ := hk5.2.1.all
    clear hbp hk5
    go_upto_region 7 with (
      go_at_call 8
      refine (unhide HQ _ (unhide K5).2.2).mono ?_
      rintro e w6 ⟨rfl, q6⟩
      obtain ⟨W7, hW7, e1, e3, e4⟩ := new_box w6 4 0 J
      have K7 := hide ((unhide K5).up (Below.up q6 e3))
      have Q7 := hide e1
      clear q6 e1 e3 e4)
    clear HSS x0 x1 x2 y0 y1 y2 lx ly P5 K5 c0 c1 c2
    have HSS : Hid (∀ w', Below W7.heap.size W7 w' → w'.cell? ⟨W.heap.size + 1, 0, none⟩ = some (.int .i64 4) ∧ w'.cell? ⟨W.heap.size + 1, 1, none⟩ = some (.int .i64 0) ∧ w'.cell? ⟨W.heap.size + 1, 2, none⟩ = some (.string b)) := fun w' h => by
      obtain ⟨e0, e1, e2, _, _, _, _⟩ := ((unhide K7).up h).2.1.all
      exact ⟨e0, e1, e2⟩
    obtain ⟨c0, c1, c2⟩ := unhide HSS _ (Below.refl _ _)
    go_cut [15, 16, 17] from 56 to 62 (fun s1 s2 s3 wx => ∃ bp, s1 = .pointer (some ⟨bp, 0, none⟩) ∧ s2 = .string ⟨#[]⟩ ∧ s3 = .int .i64 0 ∧ Bv wx bp 4 0 r ∧ K2 W a b wx ∧ Bv wx w6.heap.size 4 0 J)
    case first =>
      obtain ⟨w1, hw1, ⟨d0, d1, d2⟩, hx1, hb1⟩ := new3d W7
      have HX1 := hide hx1
      have HB1 := hide hb1
      have HD := hide (Below.refl W7.heap.size W7).drew
      have KA1 := hide (Below.up (unhide K7).2.2 hb1)
      have KAD := hide ((unhide K7).2.2).drew
      obtain ⟨q0, q1, q2⟩ := unhide HSS w1 hb1
      clear hx1 hb1
      go_region_held3 (fun w' => w'.cell? ⟨W.heap.size + 1, 0, none⟩ = some (.int .i64 4) ∧ w'.cell? ⟨W.heap.size + 1, 1, none⟩ = some (.int .i64 0) ∧ w'.cell? ⟨W.heap.size + 1, 2, none⟩ = some (.string b))
        (with_reducible first
          | assumption
          | exact unhide HSS _ (unhide HB7)
          | exact unhide HSS _ (unhide HB5)
          | exact unhide HSS _ (unhide HB4)
          | exact unhide HSS _ (unhide HB3)
          | exact unhide HSS _ (unhide HB2)
          | exact unhide HSS _ (unhide HB1)
          | exact unhide HSS _ (unhide HD)
          | exact unhide HSS _ (Below.refl _ _)
          | exact unhide HSS _ ((unhide HB5).alloc (unhide HB5).size _))
        ((first
          | (go_at_call 8
             refine (unhide HR w2 (unhide KA2)).mono ?_
             rintro e w5 ⟨rfl, q5⟩
             have hbb := Below.up (unhide HB2) q5
             have hx5 := Bv.up (unhide HX2) q5
             obtain ⟨w7, hw7, e1, e2⟩ := over3 w5 W7.heap.size 4 0 r hx5
             have HE := hide e1
             have HB5 := hide hbb
             have HB7 := hide (e2 _ _ hbb (Nat.le_refl _))
             obtain ⟨d0, d1, d2, g0, g1, g2, ld⟩ := hx5.all
             obtain ⟨c0, c1, c2⟩ := unhide HSS _ hbb
             clear q5 hbb hx5 e1 e2)
          | (go_at_call 8
             refine (unhide HR w4 (unhide KA4)).mono ?_
             rintro e w5 ⟨rfl, q5⟩
             have hbb := Below.up (unhide HB4) q5
             have hx5 := Bv.up (unhide HX4) q5
             obtain ⟨w7, hw7, e1, e2⟩ := over3 w5 w3.heap.size 4 0 r hx5
             have HE := hide e1
             have HB5 := hide hbb
             have HB7 := hide (e2 _ _ hbb (unhide HB3).size)
             obtain ⟨d0, d1, d2, g0, g1, g2, ld⟩ := hx5.all
             obtain ⟨c0, c1, c2⟩ := unhide HSS _ hbb
             clear q5 hbb hx5 e1 e2)
          | (go_at_call 8
             refine (unhide HR w3 (unhide KA3)).mono ?_
             rintro e w5 ⟨rfl, q5⟩
             have hbb := Below.up (unhide HB3) q5
             have HB5 := hide hbb
             obtain ⟨c0, c1, c2⟩ := unhide HSS _ hbb
             clear q5 hbb)
          | (go_at_call 9
             refine (unhide HN w1).mono ?_
             rintro e w2 ⟨rfl, q2⟩
             have hbb := Below.up (unhide HB1) q2
             have HX2 := hide (Bv.up (unhide HX1) q2)
             have HB2 := hide hbb
             have KA2 := hide (Below.up (unhide K7).2.2 hbb)
             obtain ⟨d0, d1, d2, g0, g1, g2, ld⟩ := Bv.all (unhide HX2)
             obtain ⟨c0, c1, c2⟩ := unhide HSS _ hbb
             clear q2 hbb)
          | (go_at_call 9
             refine (unhide HN W7.drew).mono ?_
             rintro e w3 ⟨rfl, q3⟩
             have hbb := (unhide HD).trans q3
             have HB3 := hide hbb
             have KA3 := hide (Below.up (unhide K7).2.2 hbb)
             obtain ⟨w4, hw4, ⟨d0, d1, d2⟩, hx4, hb4⟩ := new3e w3
             have HX4 := hide hx4
             have HB4 := hide (Below.up hbb hb4)
             have KA4 := hide (Below.up (unhide K7).2.2 (Below.up hbb hb4))
             obtain ⟨i0, i1, i2⟩ := unhide HSS _ (unhide HB4)
             obtain ⟨c0, c1, c2⟩ := unhide HSS _ hbb
             clear q3 hbb hx4 hb4)))
      all_goals (go_wp2_with fail; go_meet; case rel => (first
        | exact ⟨_, rfl, rfl, rfl, unhide HE, (unhide K7).up (unhide HB7), (unhide Q7).up (unhide HB7)⟩
        | exact ⟨w5.heap.size, rfl, rfl, rfl, Bx.new _ _ _, (unhide K7).up (Below.up (unhide HB5) (below_one _ _)), (unhide Q7).up (Below.up (unhide HB5) (below_one _ _))⟩))
    case rest =>
      obtain ⟨br, rfl, rfl, rfl, hbr, hk8, hq8⟩ := hcut
      have K8 := hide hk8
      have Q8 := hide hq8
      obtain ⟨x0, x1, x2, -, -, -, lx⟩ := hbr.all
      obtain ⟨y0, y1, y2, -, -, -, ly⟩ := hk8.1.all
      clear hbr hk8 hq8
      go_upto_region 9 with (
        go_at_call 8
        refine (unhide HS _ (unhide K8).2.2).mono ?_
        rintro e w9 ⟨rfl, q9⟩
        obtain ⟨W10, hW10, e1, e3, e4⟩ := new_box w9 4 0 J
        have K10 := hide ((unhide K8).up (Below.up q9 e3))
        have Q10 := hide ((unhide Q8).up (Below.up q9 e3))
        have R10 := hide e1
        clear q9 e1 e3 e4)
      clear HSS x0 x1 x2 y0 y1 y2 lx ly
      have HSS : Hid (∀ w', Below W10.heap.size W10 w' → (w'.cell? ⟨w6.heap.size, 0, none⟩ = some (.int .i64 4) ∧ w'.cell? ⟨w6.heap.size, 1, none⟩ = some (.int .i64 0) ∧ w'.cell? ⟨w6.heap.size, 2, none⟩ = some (.string J)) ∧ (w'.cell? ⟨w9.heap.size, 0, none⟩ = some (.int .i64 4) ∧ w'.cell? ⟨w9.heap.size, 1, none⟩ = some (.int .i64 0) ∧ w'.cell? ⟨w9.heap.size, 2, none⟩ = some (.string J))) := fun w' h => by
        obtain ⟨e0, e1, e2, _, _, _, _⟩ := ((unhide Q10).up h).all
        obtain ⟨g0, g1, g2, _, _, _, _⟩ := ((unhide R10).up h).all
        exact ⟨⟨e0, e1, e2⟩, g0, g1, g2⟩
      obtain ⟨⟨c0, c1, c2⟩, x0, x1, x2⟩ := unhide HSS _ (Below.refl _ _)
      have KA := hide ((unhide K10).2.2).drew
      have HD := hide (Below.refl W10.heap.size W10).drew
      have ad1 := unhide AD1
      have ad2 := unhide AD2
      go_region_held3 (fun w' => (w'.cell? ⟨w6.heap.size, 0, none⟩ = some (.int .i64 4) ∧ w'.cell? ⟨w6.heap.size, 1, none⟩ = some (.int .i64 0) ∧ w'.cell? ⟨w6.heap.size, 2, none⟩ = some (.string J)) ∧ (w'.cell? ⟨w9.heap.size, 0, none⟩ = some (.int .i64 4) ∧ w'.cell? ⟨w9.heap.size, 1, none⟩ = some (.int .i64 0) ∧ w'.cell? ⟨w9.heap.size, 2, none⟩ = some (.string J)))
        (with_reducible first
          | assumption
          | exact unhide HSS _ (unhide HB4)
          | exact unhide HSS _ (unhide HB3)
          | exact unhide HSS _ (unhide HB2)
          | exact unhide HSS _ (unhide HD)
          | exact unhide HSS _ (Below.refl _ _))
        ((first
          | (go_at_call 7
             refine (unhide HKN w3).mono ?_
             rintro e w4 ⟨rfl, q4⟩
             have HB4 := hide (Below.up (unhide HB3) q4)
             obtain ⟨⟨c0, c1, c2⟩, x0, x1, x2⟩ := unhide HSS _ (unhide HB4)
             clear q4)
          | (go_at_call 11
             refine (unhide HT w2 (unhide KA2)).mono ?_
             rintro e w3 ⟨rfl, q3⟩
             have HB3 := hide (Below.up (unhide HB2) q3)
             obtain ⟨⟨c0, c1, c2⟩, x0, x1, x2⟩ := unhide HSS _ (unhide HB3)
             clear q3)
          | (go_at_call 9
             refine (unhide HN W10.drew).mono ?_
             rintro e w2 ⟨rfl, q2⟩
             have hbb := (unhide HD).trans q2
             have HB2 := hide hbb
             have KA2 := hide (Below.up (unhide K10).2.2 hbb)
             obtain ⟨⟨c0, c1, c2⟩, x0, x1, x2⟩ := unhide HSS _ hbb
             clear q2 hbb)))
      all_goals (
        go_wp2
        go_ret
        exact ⟨rfl, Below.up (unhide K10).2.2 (unhide HB4)⟩)
end Go.Proofs.YthjlhdldomfikabDoor

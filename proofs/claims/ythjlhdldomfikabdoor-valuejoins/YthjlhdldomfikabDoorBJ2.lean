/- value.Binary of + where its callee answers in every world above A. -/
import Derived.Deep.CutRange
import Derived.Deep.RegionWith
import Derived.Test.YthjlhdldomfikabDoorVE
import Derived.Test.YthjlhdldomfikabDoorBJ1
namespace Go.Proofs.YthjlhdldomfikabDoor
set_option linter.unusedSimpArgs false
set_option linter.unusedVariables false
set_option maxRecDepth 100000
set_option maxHeartbeats 1000000
open Go.RowKit Go.Shelf

theorem bin_plus (A : World) (op : ByteArray) (e2 : op = ⟨#[43]⟩) (ka na kb nb ka' na' kb' nb' : Int) (ta tb ta' tb' : ByteArray) (HA : Ret 12 #[.agg (Vc ka na ta)] (.agg (Vc ka' na' ta'))) (HB : Ret 12 #[.agg (Vc kb nb tb)] (.agg (Vc kb' nb' tb'))) (r : R5)
    (h2 : RetA A 14 #[.agg (Vc ka' na' ta'), .agg (Vc kb' nb' tb')] r.tr) : RetA A 8 #[.string op, .agg (Vc ka na ta), .agg (Vc kb nb tb)] r.tr := by
  intro W hA0
  have HA' := hide HA
  have HB' := hide HB
  have H2 := hide h2
  have HA0 := hide hA0
  have n0 : _ := op_ne (op := op) (l := [61, 61, 61]) (fun h => absurd (congrArg ByteArray.size (e2.symm.trans h)) (by decide))
  have n1 : _ := op_ne (op := op) (l := [33, 61, 61]) (fun h => absurd (congrArg ByteArray.size (e2.symm.trans h)) (by decide))
  have E2 := hide e2
  clear HA HB h2 hA0 e2
  unfold Vc at HA' HB' ⊢
  obtain ⟨W2, hW2, b1, b2, b3, hb, hz⟩ := three_boxes W ka na ta kb nb tb
  have T2 : Hid (Three W2 W.heap.size ka na ta kb nb tb) := ⟨b1, b2, b3⟩
  obtain ⟨c0, c1, c2, f0, f1, f2, lt⟩ := b1.all
  obtain ⟨x0, x1, x2, y0, y1, y2, ly⟩ := b2.all
  have HB := hide hb
  have HZ := hide hz
  clear b1 b2 b3 hb hz
  go_enter Tryd.func8, Tryd.ntmps8
  go_upto_region 2 with fail
  go_cut [] from 9 to 12 (fun wx => Three wx W.heap.size ka' na' ta' kb' nb' tb' ∧ Below W.heap.size W wx)
  case first =>
    go_region_with (first
      | (go_at_call_of 12 na
         refine (unhide HA' _).mono ?_
         rintro e wa ⟨rfl, hba⟩
         have h1a : Below W2.heap.size W2 wa := (by first | exact hba | exact ((Below.refl _ W2).drew).trans (hba.mono (by simp)) | exact h1b.trans (hba.mono h1b.size))
         have Ta := hide ((unhide T2).below h1a (by have := unhide HZ; omega))
         obtain ⟨c0, c1, c2, f0, f1, f2, lt⟩ := (unhide Ta).1.all
         obtain ⟨x0, x1, x2, y0, y1, y2, ly⟩ := (unhide Ta).2.1.all
         clear hba)
      | (go_at_call_of 12 nb
         refine (unhide HB' _).mono ?_
         rintro e wb ⟨rfl, hbb⟩
         have h1b : Below W2.heap.size W2 wb := (by first | exact hbb | exact ((Below.refl _ W2).drew).trans (hbb.mono (by simp)) | exact h1a.trans (hbb.mono h1a.size))
         have Tb := hide ((unhide T2).below h1b (by have := unhide HZ; omega))
         obtain ⟨c0, c1, c2, f0, f1, f2, lt⟩ := (unhide Tb).1.all
         obtain ⟨x0, x1, x2, y0, y1, y2, ly⟩ := (unhide Tb).2.1.all
         clear hbb))
    all_goals (go_wp2_with fail; go_meet; case rel => (first
          | exact ⟨three_over1 (unhide Tb), below_put3 (below_put3 ((unhide HB).trans (h1b.mono (by have := unhide HZ; omega))) (by omega) _ _ _) (by omega) _ _ _⟩
          | exact ⟨three_over2 (unhide Tb), below_put3 (below_put3 ((unhide HB).trans (h1b.mono (by have := unhide HZ; omega))) (by omega) _ _ _) (by omega) _ _ _⟩
          | exact ⟨three_over1 (unhide Ta), below_put3 (below_put3 ((unhide HB).trans (h1a.mono (by have := unhide HZ; omega))) (by omega) _ _ _) (by omega) _ _ _⟩
          | exact ⟨three_over2 (unhide Ta), below_put3 (below_put3 ((unhide HB).trans (h1a.mono (by have := unhide HZ; omega))) (by omega) _ _ _) (by omega) _ _ _⟩))
  case rest =>
    obtain ⟨T3, hB3⟩ := hcut
    have s3 := hB3.size
    have T3' := hide T3
    have HB3 := hide hB3
    obtain ⟨c0, c1, c2, f0, f1, f2, lt⟩ := T3.1.all
    obtain ⟨x0, x1, x2, y0, y1, y2, ly⟩ := T3.2.1.all
    have lz := Bx.lt T3.2.2
    clear T3 hB3
    have HC := hide (unhide H2 _ (Below.up (unhide HA0) (unhide HB3)))
    unfold R5.tr Tr Vc at HC
    have e2 := unhide E2
    subst e2
    clear H2
    go_wp2_with (go_at_call 14; refine (unhide HC).mono ?_; rintro e w4 ⟨rfl, hb4⟩; have X4 := hide ((unhide T3').2.2.below hb4 (by omega)); obtain ⟨d0, d1, d2, g0, g1, g2, lt'⟩ := (unhide X4).all)
    exact ret_vsf Tryd.results8 rfl rfl rfl (unhide X4) rfl ((unhide HB3).trans (hb4.mono (by omega))) (by omega) rfl
end Go.Proofs.YthjlhdldomfikabDoor

/- known answers true. -/
import Derived.Test.YthjlhdldomfikaaDoorVH
import Derived.Test.YthjlhdldomfikaaDoorVI
namespace Go.Proofs.YthjlhdldomfikaaDoor
set_option linter.unusedSimpArgs false
set_option linter.unusedVariables false
set_option maxRecDepth 100000
open Go.RowKit Go.Shelf

theorem plus_23 : Ret 12 #[.string ⟨#[43]⟩, .agg (Vc 3 2 ByteArray.empty), .agg (Vc 3 3 ByteArray.empty)] (Tr 3 5 ByteArray.empty ⟨#[]⟩ 0) := by
  have := Binary_num ⟨#[43]⟩ 2 3 ByteArray.empty ByteArray.empty
  rw [binN_2, clamp_of 2 (by omega), clamp_of 3 (by omega)] at this
  exact this
theorem minus_a : Ret 10 #[.string ⟨#[45]⟩, .agg (Vc 4 0 ⟨#[97]⟩)] (Tr 0 0 ByteArray.empty numT 1) := by
  have := Unary_any ⟨#[45]⟩ 4 0 ⟨#[97]⟩
  exact this
theorem numT_list : (numT.toList == [84, 121, 112, 101, 69, 114, 114, 111, 114, 58, 32, 110, 117, 109, 98, 101, 114]) = true := by rw [ByteArray.toList_eq]; rfl
set_option maxHeartbeats 1000000 in
theorem known_any : Ret 9 #[] (.bool true) := by
  intro W
  have H1 := hide plus_23
  have H2 := hide minus_a
  have H3 := hide Text_5
  have hnum := numT_list
  unfold Tr Vc at H1 H2
  unfold Vc at H3
  go_enter Tryd.func9, Tryd.ntmps9
  go_wp2_with (first
    | (go_at_call 12
       refine (unhide H1 _).mono ?_
       rintro e w1 ⟨rfl, hb1⟩
       have HB1 := hide hb1
       obtain ⟨W3, hW3, e1, e3, e4⟩ := new_box w1 3 5 ByteArray.empty
       have HB3 := hide (Below.up hb1 e3)
       have E1 := hide e1
       have HZ3 := hide e4
       clear hb1 e1 e3 e4)
    | (go_at_call 10
       refine (unhide H2 _).mono ?_
       rintro e w2 ⟨rfl, hb2⟩
       have hz3 := unhide HZ3
       have hs2 := hb2.size
       obtain ⟨W4, hW4, e1, e3, e4⟩ := new_box w2 0 0 ByteArray.empty
       have X1 := ((unhide E1).below (Below.up hb2 e3) (by omega)).all
       obtain ⟨x0, x1, x2, y0, y1, y2, ly⟩ := X1
       have HB4 := hide (Below.up (unhide HB3) (Below.up hb2 e3))
       clear hb2 e1 e3 e4 hs2)
    | (go_at_call 16
       refine (unhide H3 _).mono ?_
       rintro e w5 ⟨rfl, hb5⟩
       have HB5 := hide (Below.up (unhide HB4) hb5)))
  go_ret
  exact ⟨rfl, unhide HB5⟩
end Go.Proofs.YthjlhdldomfikaaDoor

/- joined: two texts put together in a builder of their own. -/
import Derived.Test.YthjlhdldomfikabDoorBW
import Derived.Test.YthjlhdldomfikabDoorBSh
namespace Go.Proofs.YthjlhdldomfikabDoor
set_option linter.unusedSimpArgs false
set_option linter.unusedVariables false
set_option maxRecDepth 100000
set_option maxHeartbeats 1000000
open Go.RowKit Go.Shelf

theorem two_b (W : World) : ∃ W2, (W.alloc (.cells #[.int .i64 0, .int .i64 0, .string ⟨#[]⟩] 25)).alloc (.cells #[.pointer none, .slice none 0 0] 63) = W2 ∧ Bv W2 W.heap.size 0 0 ⟨#[]⟩ ∧ W2.heap[W.heap.size + 1]? = some (.cells #[.pointer none, .slice none 0 0] 63 (0, 0)) ∧ Below W.heap.size W W2 ∧ W2.heap.size = W.heap.size + 2 := by
  refine ⟨_, rfl, (Bx.new W _ _).alloc _, ?_, below_two _ _ _, by simp⟩
  have := Bx.new (W.alloc (.cells #[.int .i64 0, .int .i64 0, .string ⟨#[]⟩] 25)) #[.pointer none, .slice none 0 0] 63
  rw [World.size_alloc] at this
  exact this
theorem cells_two (a b : ByteArray) : ([] ++ Lib.strCells a) ++ Lib.strCells b = Lib.byteCells (a.data.toList ++ b.data.toList) := by
  simp [Lib.strCells, Lib.byteCells]
theorem join_eq (a b : ByteArray) : (⟨(a.data.toList ++ b.data.toList).toArray⟩ : ByteArray) = a ++ b := by
  apply ByteArray.ext
  rw [ByteArray.data_append]
  simp
theorem joined_any (a b : ByteArray) (h0 : 0 < a.size + b.size) (h1 : a.size + b.size ≤ 65536) : Ret 40 #[.string a, .string b] (Tr 4 0 (a ++ b) ⟨#[]⟩ 0) := by
  intro W
  obtain ⟨W2, hW2, b1, hbk, hb, hz⟩ := two_b W
  have HG : Hid (Calls Tryd.prog 53 #[.pointer (some ⟨W.heap.size + 1, 0, none⟩), .int .i64 ((a.size : Int) + (b.size : Int))] W2 fun e w' => e = .returned (.tuple #[]) ∧ Lib.BuilderAt 63 5 (W.heap.size + 1) (W.heap.size + 1) (.pointer (some ⟨W.heap.size + 1, 0, none⟩)) [] w' ∧ Below (W.heap.size + 1) W2 w') := by
    have := Tryd.Builder_Grow_fresh (W.heap.size + 1) (W.heap.size + 1) (a.size + b.size) W2 (Nat.le_refl _) hbk (by omega) (by omega)
    rw [Int.natCast_add] at this
    exact this
  have HB1 := hide b1
  have HB := hide hb
  have HZ := hide hz
  have hl1 : Hid (([] : List Value).length + a.size ≤ 140737488355328) := (by simp; omega : ([] : List Value).length + a.size ≤ 140737488355328)
  have hl2 : Hid (([] ++ Lib.strCells a).length + b.size ≤ 140737488355328) := (by rw [List.nil_append, Lib.strCells_length]; omega : ([] ++ Lib.strCells a).length + b.size ≤ 140737488355328)
  have HS : Hid (∀ w, Lib.BuilderAt 63 5 (W.heap.size + 1) (W.heap.size + 1) (.pointer (some ⟨W.heap.size + 1, 0, none⟩)) ([] ++ Lib.strCells a ++ Lib.strCells b) w → Calls Tryd.prog 55 #[.pointer (some ⟨W.heap.size + 1, 0, none⟩)] w fun e w' => e = .returned (.string (a ++ b)) ∧ Below (W.heap.size + 1) w w') := fun w h => by
    rw [cells_two] at h
    have hne : a.data.toList ++ b.data.toList ≠ [] := by
      intro e
      have e2 := congrArg List.length e
      simp only [List.length_append, Array.length_toList, List.length_nil] at e2
      have e3 : a.data.size = a.size := rfl
      have e4 : b.data.size = b.size := rfl
      omega
    have := Tryd.Builder_String (W.heap.size + 1) (W.heap.size + 1) _ w (.inr h) hne
    rw [join_eq] at this
    exact this
  have h2 : ¬ ((65536 : Int) < (a.size : Int) + (b.size : Int)) := by omega
  have h3 : (a.size : Int) ≤ 65536 := by omega
  have h4 : (b.size : Int) ≤ 65536 := by omega
  clear b1 hbk hb hz h0 h1
  go_enter Tryd.func40, Tryd.ntmps40
  go_wp2_with (first
    | (go_at_call 53
       refine (unhide HG).mono ?_
       rintro e w3 ⟨rfl, q3, hb3⟩
       have H3 := hide q3
       have HB3 := hide hb3
       clear q3 hb3)
    | (go_at_call 54
       refine (ws_at _ _ _ b w4 (unhide H4) (unhide hl2)).mono ?_
       rintro e w5 ⟨rfl, q5, hb5⟩
       have H5 := hide q5
       have HB5 := hide ((unhide HB4).trans hb5)
       clear q5 hb5)
    | (go_at_call 54
       refine (ws_at _ _ _ a w3 (unhide H3) (unhide hl1)).mono ?_
       rintro e w4 ⟨rfl, q4, hb4⟩
       have H4 := hide q4
       have HB4 := hide ((unhide HB3).trans hb4)
       clear q4 hb4)
    | (go_at_call 55
       refine (unhide HS w5 (unhide H5)).mono ?_
       rintro e w6 ⟨rfl, hb6⟩
       have hq := (unhide HB5).trans hb6
       have E6 := hide (Bx.below (unhide HB1) hq (Nat.lt_succ_self _))
       have HB6 := hide ((unhide HB).trans (hq.mono (Nat.le_succ _)))
       obtain ⟨d0, d1, d2, g0, g1, g2, ld⟩ := Bv.all (unhide E6)
       clear hb6 hq))
  exact ret_vsf Tryd.results40 rfl rfl rfl (unhide E6) rfl (unhide HB6) (Nat.le_refl _) rfl
end Go.Proofs.YthjlhdldomfikabDoor

/- The reference's Reached of two of the ten: one pair; holds. -/
import Derived.Laws.AppendOwn
import Derived.OwnWalk
import Derived.Test.YtapnnbgcdijfpaaGreatDoorMS
namespace Go.Proofs.YtapnnbgcdijfpaaGreatDoor
set_option linter.unusedSimpArgs false
set_option linter.unusedVariables false
set_option maxRecDepth 100000
set_option maxHeartbeats 4000000
open Go.RowKit Go.Shelf

variable {P : Program} {lo M : Nat} {mo : Option Nat} {dv : Value} {L : List Kt} {W : World}
theorem info106z : (Tryz.prog.info? 106).map (fun i => (i.zero, i.size, i.bytes)) = some (some (.agg #[.bool false, .bool false, .bool false, .bool false, .slice none 0 0]), 5, 32) := by kernel_rfl
theorem add_off (b j : Nat) : (⟨b, 0, none⟩ : Addr).add j = ⟨b, j, none⟩ := by unfold Addr.add; split <;> simp_all
theorem cells_new5 (w : World) (x0 x1 x2 x3 x4 : Value) (t : TypeId) : ∀ j u, [x0, x1, x2, x3, x4][j]? = some u → (w.alloc (.cells #[x0, x1, x2, x3, x4] t)).cell? ((⟨w.heap.size, 0, none⟩ : Addr).add j) = some u := by
  intro j u hj
  rw [add_off]
  have hb : Bx (w.alloc (.cells #[x0, x1, x2, x3, x4] t)) w.heap.size #[x0, x1, x2, x3, x4] t := al_at w _
  exact hb.cell j (by simpa using hj)
/-- The answer of the first pair lies in a row. -/
def AskAt (h : Nat) (b : Bool) (w : World) : Prop := ∃ cur : Array Value, w.heap[h]? = some (.cells cur 106) ∧ ∀ (j : Nat) (u : Value), [Value.bool false, .bool true, .bool b, .bool false, .slice none 0 0][j]? = some u → cur[j]? = some u
theorem AskAt.cell {h : Nat} {b : Bool} {w : World} (ha : AskAt h b w) (j : Nat) (u : Value) (hj : [Value.bool false, .bool true, .bool b, .bool false, .slice none 0 0][j]? = some u) : w.cell? ⟨h, j, none⟩ = some u := by
  obtain ⟨cur, h1, h2⟩ := ha
  simp [World.cell?, h1, h2 j u hj]
theorem AskAt.lt {h : Nat} {b : Bool} {w : World} (ha : AskAt h b w) : h < w.heap.size := by
  obtain ⟨cur, h1, h2⟩ := ha
  exact (Array.getElem?_eq_some_iff.1 h1).1
theorem AskAt.below {h : Nat} {b : Bool} {w w' : World} (ha : AskAt h b w) (hb : Below w.heap.size w w') : AskAt h b w' := by
  have hl := ha.lt
  obtain ⟨cur, h1, h2⟩ := ha
  exact ⟨cur, (hb.block h hl).trans h1, h2⟩
def ReQ (x y : Nat) (W : World) (e : Ending) (w' : World) : Prop := ∃ g h c, e = .returned (.tuple #[.slice (some ⟨g, 0, none⟩) 1 1, .slice (some ⟨h, 0, none⟩) 1 c]) ∧ AskAt h (askR x y) w' ∧ Below W.heap.size W w'
theorem rreached_any (x y : Nat) (hx : 1 ≤ x ∧ x ≤ 10) (hy : 1 ≤ y ∧ y ≤ 10) (W : World) : Calls Tryz.prog 54 #[.agg (tK x), .agg (tK y), .slice none 0 0, .int .i64 2000] W (ReQ x y W) := by
  obtain ⟨j0, hj, hy0, hy1, hy2⟩ := info_parts info106z
  obtain ⟨W1, hW1⟩ : ∃ W1, (W.alloc (.cells #[.int .i64 (x : Int), .int .i64 0, .string ⟨#[]⟩, .slice none 0 0, .slice none 0 0, .slice none 0 0] 55)).alloc (.cells #[.int .i64 (y : Int), .int .i64 0, .string ⟨#[]⟩, .slice none 0 0, .slice none 0 0, .slice none 0 0] 55) = W1 := ⟨_, rfl⟩
  have hb1 : Below W.heap.size W W1 := by rw [← hW1]; exact ((Below.refl _ W).alloc (Nat.le_refl _) _).alloc (by simp) _
  have hB : Bx W1 W.heap.size #[.int .i64 (x : Int), .int .i64 0, .string ⟨#[]⟩, .slice none 0 0, .slice none 0 0, .slice none 0 0] 55 := by rw [← hW1]; exact (Below.heap_alloc _ _ _ (by simp)).trans (al_at W _)
  have hC : Bx W1 (W.heap.size + 1) #[.int .i64 (y : Int), .int .i64 0, .string ⟨#[]⟩, .slice none 0 0, .slice none 0 0, .slice none 0 0] 55 := by
    rw [← hW1]
    have := al_at (W.alloc (.cells #[.int .i64 (x : Int), .int .i64 0, .string ⟨#[]⟩, .slice none 0 0, .slice none 0 0, .slice none 0 0] 55)) (.cells #[.int .i64 (y : Int), .int .i64 0, .string ⟨#[]⟩, .slice none 0 0, .slice none 0 0, .slice none 0 0] 55)
    rw [World.size_alloc] at this
    exact this
  have HMA : Hid (∀ w, Calls Tryz.prog 92 #[.agg #[.int .i64 (x : Int), .int .i64 0, .string ⟨#[]⟩, .slice none 0 0, .slice none 0 0, .slice none 0 0], .agg #[.int .i64 (y : Int), .int .i64 0, .string ⟨#[]⟩, .slice none 0 0, .slice none 0 0, .slice none 0 0]] w fun e w' => ∃ s, e = .returned (.agg (pK x y s)) ∧ Below w.heap.size w w') := fun w => rmade_any x y hx hy w
  have HAS : Hid (∀ s w, Calls Tryz.prog 93 #[.agg #[.int .i64 (x : Int), .int .i64 0, .string ⟨#[]⟩, .slice none 0 0, .slice none 0 0, .slice none 0 0, .int .i64 (y : Int), .int .i64 0, .string ⟨#[]⟩, .slice none 0 0, .slice none 0 0, .slice none 0 0, .string s], .slice none 0 0] w fun e w' => e = .returned (.agg #[.bool false, .bool true, .bool (askR x y), .bool false, .slice none 0 0]) ∧ Below w.heap.size w w') := fun s w => rasked_any x y hx hy s w
  obtain ⟨br, hbr⟩ : ∃ br, askR x y = br := ⟨_, rfl⟩
  have HB := hide hB
  have HC := hide hC
  have HB1 := hide hb1
  unfold ReQ
  rw [hbr] at HAS ⊢
  clear hB hC hb1 hx hy hbr
  show Calls Tryz.prog 54 #[.agg #[.int .i64 (x : Int), .int .i64 0, .string ⟨#[]⟩, .slice none 0 0, .slice none 0 0, .slice none 0 0], .agg #[.int .i64 (y : Int), .int .i64 0, .string ⟨#[]⟩, .slice none 0 0, .slice none 0 0, .slice none 0 0], .slice none 0 0, .int .i64 2000] W _
  go_enter Tryz.func54, Tryz.ntmps54
  go_wp2_with (first
    | (refine wpList_load_row rfl 55 _ rfl W.heap.size rfl 55 _ (0, 0) _ (unhide HB) Tryz.underlying55 rfl info55 ?_)
    | (refine wpList_load_row rfl 55 _ rfl (W.heap.size + 1) rfl 55 _ (0, 0) _ (unhide HC) Tryz.underlying55 rfl info55 ?_)
    | (go_at_call 92
       refine (unhide HMA W1).mono ?_
       rintro e w2 ⟨s, rfl, hb2⟩
       unfold pK
       have HB2 := hide ((unhide HB1).trans (hb2.mono (unhide HB1).size))
       clear hb2))
  obtain ⟨W3, hW3⟩ : ∃ W3, w2.alloc (.cells #[.int .i64 (x : Int), .int .i64 0, .string ⟨#[]⟩, .slice none 0 0, .slice none 0 0, .slice none 0 0, .int .i64 (y : Int), .int .i64 0, .string ⟨#[]⟩, .slice none 0 0, .slice none 0 0, .slice none 0 0, .string s] 149) = W3 := ⟨_, rfl⟩
  have hP : Bx W3 w2.heap.size #[.int .i64 (x : Int), .int .i64 0, .string ⟨#[]⟩, .slice none 0 0, .slice none 0 0, .slice none 0 0, .int .i64 (y : Int), .int .i64 0, .string ⟨#[]⟩, .slice none 0 0, .slice none 0 0, .slice none 0 0, .string s] 149 := by rw [← hW3]; exact al_at w2 _
  have hb3 : Below W.heap.size W W3 := by rw [← hW3]; exact (unhide HB2).alloc (unhide HB2).size _
  try rw [hW3]
  have HP := hide hP
  have HB3 := hide hb3
  clear hW3 hP hb3
  refine wp_loop_rounds 2 ?_
  rw [rounds_succ]
  go_wp2_with (first
    | (refine wpList_load_row rfl 149 _ rfl w2.heap.size rfl 149 _ (0, 0) _ (unhide HP) Tryz.underlying149 rfl info149 ?_)
    | (go_at_call 93
       refine (unhide HAS s W3).mono ?_
       rintro e w4 ⟨rfl, hb4⟩
       have HB4 := hide ((unhide HB3).trans (hb4.mono (unhide HB3).size))
       clear hb4)
    | (refine wpList_store_row rfl 106 _ _ rfl w4.heap.size _ rfl rfl 106 _ (al_at w4 _) info106 rfl (one5a _ _ _ _ _ _ _) ?_)
    | (refine wpList_load_row rfl 106 _ rfl w4.heap.size rfl 106 _ (0, 0) _ (setRow_heap _ _ _ _ _ _ (al_at w4 _)) Tryz.underlying106 rfl info106 ?_))
  obtain ⟨cc, hcc⟩ : ∃ cc, (Question.appendCap 1 0 106).cut (w4.tape w4.drawn (Question.appendCap 1 0 106)) = cc := ⟨_, rfl⟩
  rw [hcc]
  obtain ⟨X1, hX1⟩ : ∃ X1, (w4.alloc (.cells #[.bool false, .bool false, .bool false, .bool false, .slice none 0 0] 106)).setRow w4.heap.size #[.bool false, .bool true, .bool br, .bool false, .slice none 0 0] = X1 := ⟨_, rfl⟩
  have hq1 : Bx X1 w4.heap.size #[.bool false, .bool true, .bool br, .bool false, .slice none 0 0] 106 := by rw [← hX1]; exact setRow_at (al_at w4 _)
  have hz1 : X1.heap.size = w4.heap.size + 1 := by rw [← hX1]; simp
  have hbx1 : Below W.heap.size W X1 := by rw [← hX1]; exact below_row ((unhide HB4).alloc (unhide HB4).size _) (unhide HB4).size _
  rw [hX1]
  obtain ⟨X2, hX2⟩ : ∃ X2, ((X1.alloc (.cells #[.bool false, .bool true, .bool br, .bool false, .slice none 0 0] 106)).alloc (.cells (#[.bool false, .bool true, .bool br, .bool false, .slice none 0 0] ++ Builtin.zeroCells #[.bool false, .bool false, .bool false, .bool false, .slice none 0 0] (cc - 1)) 106)).drew = X2 := ⟨_, rfl⟩
  have hbx2 : Below W.heap.size W X2 := by rw [← hX2]; exact ((hbx1.alloc hbx1.size _).alloc (Nat.le_trans hbx1.size (by simp)) _).drew
  have hq2 : Bx X2 w4.heap.size #[.bool false, .bool true, .bool br, .bool false, .slice none 0 0] 106 := by rw [← hX2]; exact (Below.heap_alloc _ _ _ (by simp; omega)).trans ((Below.heap_alloc _ _ _ (by omega)).trans hq1)
  have hask : AskAt (w4.heap.size + 1 + 1) br X2 := by
    refine ⟨#[.bool false, .bool true, .bool br, .bool false, .slice none 0 0] ++ Builtin.zeroCells #[.bool false, .bool false, .bool false, .bool false, .slice none 0 0] (cc - 1), ?_, fun j u hj => ?_⟩
    · rw [← hX2]
      have := al_at (X1.alloc (.cells #[.bool false, .bool true, .bool br, .bool false, .slice none 0 0] 106)) (.cells (#[.bool false, .bool true, .bool br, .bool false, .slice none 0 0] ++ Builtin.zeroCells #[.bool false, .bool false, .bool false, .bool false, .slice none 0 0] (cc - 1)) 106)
      rw [World.size_alloc, hz1] at this
      exact this
    · have hl := (List.getElem?_eq_some_iff.1 hj).1
      rw [Array.getElem?_append_left (by simpa using hl)]
      simpa using hj
  rw [hX2]
  have c4 := hq2.cell 4 rfl
  have cl := hq2.lt
  have HAK := hide hask
  have HBX := hide hbx2
  clear hX1 hX2 hq1 hz1 hbx1 hbx2 hq2 hask hcc
  refine wp_loop_rounds 1 ?_
  rw [rounds_succ]
  go_wp2
  rw [rounds_succ]
  go_wp2
  exact bodyPost_ret (v := .tuple #[.slice (some ⟨w2.heap.size, 0, none⟩) 1 1, .slice (some ⟨w4.heap.size + 1 + 1, 0, none⟩) 1 cc]) (by simp [results, Tryz.results54, go_sem]) rfl ⟨_, _, _, rfl, unhide HAK, unhide HBX⟩
theorem rholds_any (b : Bool) (lv sv : Value) (W : World) : Calls Tryz.prog 55 #[.agg #[.bool false, .bool true, .bool b, .bool false, .slice none 0 0], lv, sv] W fun e w' => e = .returned (.bool b) ∧ Below W.heap.size W w' := by
  have HB := hide ((Below.refl _ W).alloc (Nat.le_refl _) (.cells #[.bool false, .bool true, .bool b, .bool false, .slice none 0 0] 106))
  go_enter Tryz.func55, Tryz.ntmps55
  go_wp2
  go_ret
  exact ⟨rfl, unhide HB⟩
end Go.Proofs.YtapnnbgcdijfpaaGreatDoor

/- The reference's Assignable of two of the ten. -/
import Derived.Deep.OwnRows
import Derived.Test.YtapnnbgcdijfpaaGreatDoorMT
namespace Go.Proofs.YtapnnbgcdijfpaaGreatDoor
set_option linter.unusedSimpArgs false
set_option linter.unusedVariables false
set_option maxRecDepth 100000
set_option maxHeartbeats 4000000
open Go.RowKit Go.Shelf

variable {P : Program} {lo M : Nat} {mo : Option Nat} {dv : Value} {L : List Kt} {W : World}
theorem AskAt.keep {h : Nat} {b : Bool} {w w' : World} (ha : AskAt h b w) (e : w'.heap[h]? = w.heap[h]?) : AskAt h b w' := by
  obtain ⟨cur, h1, h2⟩ := ha
  exact ⟨cur, e.trans h1, h2⟩
theorem infoBool4 : (Tryz.prog.info? 4).map (fun i => (i.zero, i.size, i.bytes)) = some (some (.bool false), 1, 1) := by kernel_rfl
theorem mk24 (w : World) : (Instr.makeSlice 24 (.int .i64 1) (.int .i64 1)).run Tryz.prog w = .ok (.slice (some ⟨w.heap.size, 0, none⟩) 1 1) (w.alloc (.cells #[.bool false] 4)) := by
  have h := run_make_row' (P := Tryz.prog) 24 4 (.bool false) 1 Tryz.underlying24 infoBool4 rfl .i64 .i64 1 (by omega) (by omega) w
  have e : madeCells #[.bool false] 1 = #[.bool false] := by first | (simp [madeCells]; done) | kernel_rfl
  rw [e] at h
  exact h
theorem rassign_any (x y : Nat) (hx : 1 ≤ x ∧ x ≤ 10) (hy : 1 ≤ y ∧ y ≤ 10) (W : World) : Calls Tryz.prog 25 #[.agg (tK x), .agg (tK y), .slice none 0 0] W fun e w' => e = .returned (.tuple #[.bool (askR x y), .int .i64 0]) ∧ Below W.heap.size W w' := by
  obtain ⟨W1, hW1⟩ : ∃ W1, (W.alloc (.cells #[.int .i64 (x : Int), .int .i64 0, .string ⟨#[]⟩, .slice none 0 0, .slice none 0 0, .slice none 0 0] 55)).alloc (.cells #[.int .i64 (y : Int), .int .i64 0, .string ⟨#[]⟩, .slice none 0 0, .slice none 0 0, .slice none 0 0] 55) = W1 := ⟨_, rfl⟩
  have hb1 : Below W.heap.size W W1 := by rw [← hW1]; exact ((Below.refl _ W).alloc (Nat.le_refl _) _).alloc (by simp) _
  have hB : Bx W1 W.heap.size #[.int .i64 (x : Int), .int .i64 0, .string ⟨#[]⟩, .slice none 0 0, .slice none 0 0, .slice none 0 0] 55 := by rw [← hW1]; exact (Below.heap_alloc _ _ _ (by simp)).trans (al_at W _)
  have hC : Bx W1 (W.heap.size + 1) #[.int .i64 (y : Int), .int .i64 0, .string ⟨#[]⟩, .slice none 0 0, .slice none 0 0, .slice none 0 0] 55 := by
    rw [← hW1]
    have := al_at (W.alloc (.cells #[.int .i64 (x : Int), .int .i64 0, .string ⟨#[]⟩, .slice none 0 0, .slice none 0 0, .slice none 0 0] 55)) (.cells #[.int .i64 (y : Int), .int .i64 0, .string ⟨#[]⟩, .slice none 0 0, .slice none 0 0, .slice none 0 0] 55)
    rw [World.size_alloc] at this
    exact this
  have HRE : Hid (∀ w, Calls Tryz.prog 54 #[.agg #[.int .i64 (x : Int), .int .i64 0, .string ⟨#[]⟩, .slice none 0 0, .slice none 0 0, .slice none 0 0], .agg #[.int .i64 (y : Int), .int .i64 0, .string ⟨#[]⟩, .slice none 0 0, .slice none 0 0, .slice none 0 0], .slice none 0 0, .int .i64 2000] w (ReQ x y w)) := fun w => rreached_any x y hx hy w
  unfold ReQ at HRE
  obtain ⟨br, hbr⟩ : ∃ br, askR x y = br := ⟨_, rfl⟩
  rw [hbr] at HRE ⊢
  have HB := hide hB
  have HC := hide hC
  have HB1 := hide hb1
  clear hB hC hb1 hx hy hbr
  show Calls Tryz.prog 25 #[.agg #[.int .i64 (x : Int), .int .i64 0, .string ⟨#[]⟩, .slice none 0 0, .slice none 0 0, .slice none 0 0], .agg #[.int .i64 (y : Int), .int .i64 0, .string ⟨#[]⟩, .slice none 0 0, .slice none 0 0, .slice none 0 0], .slice none 0 0] W _
  have hmk := mk24
  cases br with
  | true =>
    go_enter Tryz.func25, Tryz.ntmps25
    go_wp2_with (first
      | (refine wpList_load_row rfl 55 _ rfl W.heap.size rfl 55 _ (0, 0) _ (unhide HB) Tryz.underlying55 rfl info55 ?_)
      | (refine wpList_load_row rfl 55 _ rfl (W.heap.size + 1) rfl 55 _ (0, 0) _ (unhide HC) Tryz.underlying55 rfl info55 ?_)
      | (go_at_call 54
         refine (unhide HRE W1).mono ?_
         rintro e w2 ⟨g, h, c, rfl, ha, hb2⟩
         have HA := hide ha
         have HB2 := hide ((unhide HB1).trans (hb2.mono (unhide HB1).size))
         clear hb2 ha))
    obtain ⟨X0, hX0⟩ : ∃ X0, w2.alloc (.cells #[.bool false] 4) = X0 := ⟨_, rfl⟩
    have hs0 : Bx X0 w2.heap.size #[.bool false] 4 := by rw [← hX0]; exact al_at w2 _
    have hb0 : Below w2.heap.size w2 X0 := by rw [← hX0]; exact (Below.refl _ _).alloc (Nat.le_refl _) _
    rw [hX0]
    clear hX0
    have hhl := (unhide HA).lt
    have ha0 := (unhide HA).below hb0
    obtain ⟨X1, hX1⟩ : ∃ X1, X0.setCell ⟨w2.heap.size, 0, none⟩ (.bool true) = X1 := ⟨_, rfl⟩
    have hs1 : Bx X1 w2.heap.size #[.bool true] 4 := by rw [← hX1]; exact hs0.set _
    have hb1 : Below w2.heap.size X0 X1 := by rw [← hX1]; exact (Below.refl _ _).setCell (p := ⟨w2.heap.size, 0, none⟩) (Nat.le_refl _) _
    have ha1 := ha0.keep (hb1.block h hhl)
    have HBX : Hid (Below W.heap.size W X1) := (unhide HB2).trans (((hb0.trans hb1)).mono (unhide HB2).size)
    have s0 := hs0.cell 0 rfl
    have sf := hs0.free 0
    have sl := hs0.lt
    have k0 := ha0.cell 0 _ rfl
    have kl := ha0.lt
    have t0 := hs1.cell 0 rfl
    have tf := hs1.free 0
    have tl := hs1.lt
    have m0 := ha1.cell 0 _ rfl
    have m1 := ha1.cell 1 _ rfl
    have m2 := ha1.cell 2 _ rfl
    have m3 := ha1.cell 3 _ rfl
    have m4 := ha1.cell 4 _ rfl
    have ml := ha1.lt
    have HS1 := hide hs1
    clear hs0 hb0 ha0 hs1 hb1 ha1
    refine wp_loop_rounds 2 ?_
    rw [rounds_succ]
    go_wp2
    rw [rounds_succ]
    go_wp2
    refine wp_loop_rounds 2 ?_
    rw [rounds_succ]
    go_wp2
    refine wp_loop_rounds 2 ?_
    rw [rounds_succ]
    go_wp2_with (first
      | (go_at_call 55
         refine (rholds_any _ _ _ _).mono ?_
         rintro e w5 ⟨rfl, hb5⟩
         have hs5 := (unhide HS1).below hb5 (unhide HS1).lt
         have u0 := hs5.cell 0 rfl
         have uf := hs5.free 0
         have ul := hs5.lt
         have HS5 := hide hs5
         have HB5 := hide ((unhide HBX).trans (hb5.mono (unhide HBX).size))
         clear hb5 hs5))
    rw [rounds_succ]
    go_wp2
    rw [rounds_succ]
    go_wp2
    exact bodyPost_ret (v := .tuple #[.bool true, .int .i64 0]) (by simp [results, Tryz.results25, go_sem]) rfl ⟨rfl, unhide HB5⟩
  | false =>
    go_enter Tryz.func25, Tryz.ntmps25
    go_wp2_with (first
      | (refine wpList_load_row rfl 55 _ rfl W.heap.size rfl 55 _ (0, 0) _ (unhide HB) Tryz.underlying55 rfl info55 ?_)
      | (refine wpList_load_row rfl 55 _ rfl (W.heap.size + 1) rfl 55 _ (0, 0) _ (unhide HC) Tryz.underlying55 rfl info55 ?_)
      | (go_at_call 54
         refine (unhide HRE W1).mono ?_
         rintro e w2 ⟨g, h, c, rfl, ha, hb2⟩
         have HA := hide ha
         have HB2 := hide ((unhide HB1).trans (hb2.mono (unhide HB1).size))
         clear hb2 ha))
    obtain ⟨X0, hX0⟩ : ∃ X0, w2.alloc (.cells #[.bool false] 4) = X0 := ⟨_, rfl⟩
    have hs0 : Bx X0 w2.heap.size #[.bool false] 4 := by rw [← hX0]; exact al_at w2 _
    have hb0 : Below w2.heap.size w2 X0 := by rw [← hX0]; exact (Below.refl _ _).alloc (Nat.le_refl _) _
    rw [hX0]
    clear hX0
    have hhl := (unhide HA).lt
    have ha0 := (unhide HA).below hb0
    obtain ⟨X1, hX1⟩ : ∃ X1, X0.setCell ⟨w2.heap.size, 0, none⟩ (.bool true) = X1 := ⟨_, rfl⟩
    have hs1 : Bx X1 w2.heap.size #[.bool true] 4 := by rw [← hX1]; exact hs0.set _
    have hb1 : Below w2.heap.size X0 X1 := by rw [← hX1]; exact (Below.refl _ _).setCell (p := ⟨w2.heap.size, 0, none⟩) (Nat.le_refl _) _
    have ha1 := ha0.keep (hb1.block h hhl)
    have HBX : Hid (Below W.heap.size W X1) := (unhide HB2).trans (((hb0.trans hb1)).mono (unhide HB2).size)
    have s0 := hs0.cell 0 rfl
    have sf := hs0.free 0
    have sl := hs0.lt
    have k0 := ha0.cell 0 _ rfl
    have kl := ha0.lt
    have t0 := hs1.cell 0 rfl
    have tf := hs1.free 0
    have tl := hs1.lt
    have m0 := ha1.cell 0 _ rfl
    have m1 := ha1.cell 1 _ rfl
    have m2 := ha1.cell 2 _ rfl
    have m3 := ha1.cell 3 _ rfl
    have m4 := ha1.cell 4 _ rfl
    have ml := ha1.lt
    have HS1 := hide hs1
    clear hs0 hb0 ha0 hs1 hb1 ha1
    refine wp_loop_rounds 2 ?_
    rw [rounds_succ]
    go_wp2
    rw [rounds_succ]
    go_wp2
    refine wp_loop_rounds 3 ?_
    rw [rounds_succ]
    go_wp2
    refine wp_loop_rounds 2 ?_
    rw [rounds_succ]
    go_wp2_with (first
      | (go_at_call 55
         refine (rholds_any _ _ _ _).mono ?_
         rintro e w5 ⟨rfl, hb5⟩
         have hs5 := (unhide HS1).below hb5 (unhide HS1).lt
         have u0 := hs5.cell 0 rfl
         have uf := hs5.free 0
         have ul := hs5.lt
         obtain ⟨X6, hX6⟩ : ∃ X6, w5.setCell ⟨w2.heap.size, 0, none⟩ (.bool false) = X6 := ⟨_, rfl⟩
         have hs6 : Bx X6 w2.heap.size #[.bool false] 4 := (by rw [← hX6]; exact hs5.set _)
         have v0 := hs6.cell 0 rfl
         have vl := hs6.lt
         have HB5 := hide ((unhide HBX).trans (hb5.mono (unhide HBX).size))
         have HB6 : Hid (Below W.heap.size W X6) := (by rw [← hX6]; exact (unhide HB5).setCell (p := ⟨w2.heap.size, 0, none⟩) (unhide HB2).size _)
         clear hb5 hs5 hs6))
    rw [rounds_succ]
    go_wp2
    rw [rounds_succ]
    go_wp2
    refine wp_loop_rounds 2 ?_
    rw [rounds_succ]
    go_wp2
    rw [rounds_succ]
    go_wp2
    rw [rounds_succ]
    go_wp2
    exact bodyPost_ret (v := .tuple #[.bool false, .int .i64 0]) (by simp [results, Tryz.results25, go_sem]) rfl ⟨rfl, unhide HB6⟩
end Go.Proofs.YtapnnbgcdijfpaaGreatDoor

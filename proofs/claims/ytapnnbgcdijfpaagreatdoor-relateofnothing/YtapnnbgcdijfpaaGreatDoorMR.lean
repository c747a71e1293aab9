/- The reference's Same, known, Pieces and base of the ten. -/
import Derived.Test.YtapnnbgcdijfpaaGreatDoorMQ2
namespace Go.Proofs.YtapnnbgcdijfpaaGreatDoor
set_option linter.unusedSimpArgs false
set_option linter.unusedVariables false
set_option maxRecDepth 100000
set_option maxHeartbeats 4000000
open Go.RowKit Go.Shelf

variable {P : Program} {lo M : Nat} {mo : Option Nat} {dv : Value} {L : List Kt} {W : World}
/-- A region whose operations only read and whose callees leave a class of worlds: one walk serves every order. -/
theorem region_C {P : Program} {C : World → Prop} {id : Nat} {Q : Exit → Act → World → Prop} {a : Act} {w : World} {l : List Oper} (hm : P.follows .mixedOrders = true) (hB : Region.lexB .any l.toArray = true) (hC : C { w with drawn := w.drawn + 1 })
    (h : wpQuiet P l.toArray C (fun a' => ∀ w', C w' → Q .normal a' w') l a) : (Code.region id l.toArray true).wp P Q a w :=
  wp_region_quiet (C := C) hm hB hC (by simpa using h)
theorem bares_eq : ∀ a : Fin 11, ∀ b : Fin 11, (bares.getD a [] == bares.getD b []) = decide (a = b) := by decide +kernel
theorem bare_same (x y : Nat) (hx : x ≤ 10) (hy : y ≤ 10) : ((bareW x).toList == (bareW y).toList) = decide (x = y) := by
  have := bares_eq ⟨x, by omega⟩ ⟨y, by omega⟩
  unfold bareW
  rw [ByteArray.toList_mk, ByteArray.toList_mk]
  simpa using this
theorem rsame_any (x y : Nat) (hx : 1 ≤ x ∧ x ≤ 10) (hy : 1 ≤ y ∧ y ≤ 10) (W : World) : Calls Tryz.prog 128 #[.agg (tK x), .agg (tK y)] W fun e w' => e = .returned (.bool (decide (x = y))) ∧ Below W.heap.size W w' := by
  obtain ⟨W1, hW1⟩ : ∃ W1, (W.alloc (.cells (tK x) 55)).alloc (.cells (tK y) 55) = W1 := ⟨_, rfl⟩
  have hb1 : Below W.heap.size W W1 := by rw [← hW1]; exact ((Below.refl _ W).alloc (Nat.le_refl _) _).alloc (by simp) _
  have hB : Bx W1 W.heap.size (tK x) 55 := by rw [← hW1]; exact (Below.heap_alloc _ _ _ (by simp)).trans (al_at W _)
  have hC : Bx W1 (W.heap.size + 1) (tK y) 55 := by
    rw [← hW1]
    have := al_at (W.alloc (.cells (tK x) 55)) (.cells (tK y) 55)
    rw [World.size_alloc] at this
    exact this
  have hz := hC.lt
  have hbs := bare_same x y hx.2 hy.2
  have HTX : Hid (∀ w, Calls Tryz.prog 127 #[.agg #[.int .i64 (x : Int), .int .i64 0, .string ⟨#[]⟩, .slice none 0 0, .slice none 0 0, .slice none 0 0]] w fun e w' => e = .returned (.string (bareW x)) ∧ Below w.heap.size w w') := fun w => rtext_any x hx.1 hx.2 w
  have HTY : Hid (∀ w, Calls Tryz.prog 127 #[.agg #[.int .i64 (y : Int), .int .i64 0, .string ⟨#[]⟩, .slice none 0 0, .slice none 0 0, .slice none 0 0]] w fun e w' => e = .returned (.string (bareW y)) ∧ Below w.heap.size w w') := fun w => rtext_any y hy.1 hy.2 w
  have HSS : Hid (∀ w', Below W1.heap.size W1 w' → (w'.cell? ⟨W.heap.size, 0, none⟩ = some (.int .i64 (x : Int)) ∧ w'.cell? ⟨W.heap.size, 1, none⟩ = some (.int .i64 0) ∧ w'.cell? ⟨W.heap.size, 2, none⟩ = some (.string ⟨#[]⟩) ∧ w'.cell? ⟨W.heap.size, 3, none⟩ = some (.slice none 0 0) ∧ w'.cell? ⟨W.heap.size, 4, none⟩ = some (.slice none 0 0) ∧ w'.cell? ⟨W.heap.size, 5, none⟩ = some (.slice none 0 0)) ∧ (w'.cell? ⟨W.heap.size + 1, 0, none⟩ = some (.int .i64 (y : Int)) ∧ w'.cell? ⟨W.heap.size + 1, 1, none⟩ = some (.int .i64 0) ∧ w'.cell? ⟨W.heap.size + 1, 2, none⟩ = some (.string ⟨#[]⟩) ∧ w'.cell? ⟨W.heap.size + 1, 3, none⟩ = some (.slice none 0 0) ∧ w'.cell? ⟨W.heap.size + 1, 4, none⟩ = some (.slice none 0 0) ∧ w'.cell? ⟨W.heap.size + 1, 5, none⟩ = some (.slice none 0 0)) ∧ W.heap.size + 1 < w'.heap.size) := fun w' hb => by
    have h1 := hB.below hb (by omega)
    have h2 := hC.below hb hC.lt
    exact ⟨⟨h1.cell 0 rfl, h1.cell 1 rfl, h1.cell 2 rfl, h1.cell 3 rfl, h1.cell 4 rfl, h1.cell 5 rfl⟩, ⟨h2.cell 0 rfl, h2.cell 1 rfl, h2.cell 2 rfl, h2.cell 3 rfl, h2.cell 4 rfl, h2.cell 5 rfl⟩, h2.lt⟩
  have HB1 := hide hb1
  have HBS := hide hbs
  clear hb1 hB hC hbs hx hy
  unfold tK at hW1
  show Calls Tryz.prog 128 #[.agg #[.int .i64 (x : Int), .int .i64 0, .string ⟨#[]⟩, .slice none 0 0, .slice none 0 0, .slice none 0 0], .agg #[.int .i64 (y : Int), .int .i64 0, .string ⟨#[]⟩, .slice none 0 0, .slice none 0 0, .slice none 0 0]] W _
  go_enter Tryz.func128, Tryz.ntmps128
  go_wp2
  try rw [hW1]
  refine region_C (C := fun w' => Below W1.heap.size W1 w') (by kernel_rfl) (by kernel_rfl) (Below.refl _ _).drew ?_
  repeat (first
    | go_big_quiet_skip
    | (go_big_quiet_want
       go_big_quiet_op
       first
         | go_big_quiet_on
         | (apply Exists.intro
            refine ⟨fun w hw => ?_, ?_⟩
            first
              | rfl
              | with_reducible exact (unhide HTX w).mono fun e w2 h => ⟨h.1, hw.trans (h.2.mono hw.size)⟩
              | with_reducible exact (unhide HTY w).mono fun e w2 h => ⟨h.1, hw.trans (h.2.mono hw.size)⟩
              | (obtain ⟨⟨p0, p1, p2, p3, p4, p5⟩, ⟨q0, q1, q2, q3, q4, q5⟩, hzz⟩ := unhide HSS w hw
                 go_simp
                 first | done | rfl | exact ⟨rfl, rfl⟩)
            go_big_quiet_on)))
  refine wpQuiet_nil ?_
  intro w1 hw1
  have HW1 := hide hw1
  clear hw1
  go_wp2
  go_ret
  refine ⟨?_, (unhide HB1).trans ((unhide HW1).mono (unhide HB1).size)⟩
  rw [← unhide HBS]
  rfl
theorem info106 : (Tryz.prog.info? 106).map (·.size) = some 5 := by kernel_rfl
/-- What is known: an answer. -/
def aK (b : Bool) : Array Value := #[.bool false, .bool true, .bool b, .bool false, .slice none 0 0]
theorem rknown_any (b : Bool) (W : World) : Calls Tryz.prog 129 #[.bool b] W fun e w' => e = .returned (.agg (aK b)) ∧ Below W.heap.size W w' := by
  have HB := hide ((Below.refl _ W).alloc (Nat.le_refl _) (.cells #[.bool false, .bool false, .bool false, .bool false, .slice none 0 0] 106))
  go_enter Tryz.func129, Tryz.ntmps129
  go_wp2_with (refine wpList_store_row rfl 106 _ _ rfl W.heap.size _ rfl rfl 106 _ (al_at W _) info106 rfl (by simp [Value.oneCell']) ?_)
  refine bodyPost_ret (results_cell_row rfl _ _ W.heap.size 106 _ (0, 0) _ rfl (setRow_heap _ _ _ _ _ _ (al_at W _)) Tryz.underlying106 rfl info106) rfl ?_
  exact ⟨rfl, below_row (unhide HB) (Nat.le_refl _) _⟩
/-- Pieces of what has none. -/
theorem rpieces_none (x : Nat) (hx : 1 ≤ x ∧ x ≤ 10) (W : World) : Calls Tryz.prog 132 #[.agg (tK x), .slice none 0 0] W fun e w' => e = .returned (.tuple #[.slice none 0 0, .int .i64 11]) ∧ Below W.heap.size W w' := by
  have n14 : ((x : Int) == 14) = false := by simp; omega
  have n17 : ((x : Int) == 17) = false := by simp; omega
  have HB := hide ((Below.refl _ W).alloc (Nat.le_refl _) (.cells #[.int .i64 (x : Int), .int .i64 0, .string ⟨#[]⟩, .slice none 0 0, .slice none 0 0, .slice none 0 0] 55))
  clear hx
  show Calls Tryz.prog 132 #[.agg #[.int .i64 (x : Int), .int .i64 0, .string ⟨#[]⟩, .slice none 0 0, .slice none 0 0, .slice none 0 0], .slice none 0 0] W _
  go_enter Tryz.func132, Tryz.ntmps132
  go_wp2
  exact bodyPost_ret (v := .tuple #[.slice none 0 0, .int .i64 11]) (by simp [results, Tryz.results132, go_sem]) rfl ⟨rfl, unhide HB⟩
theorem rbase_any (x y : Nat) (hx : 1 ≤ x ∧ x ≤ 10) (hy : 1 ≤ y ∧ y ≤ 10) (W : World) : Calls Tryz.prog 130 #[.agg (tK x), .agg (tK y)] W fun e w' => e = .returned (.bool (valP x y)) ∧ Below W.heap.size W w' := by
  have hv : valP x y = (((x : Int) == 5) && ((y : Int) == 4)) := by
    unfold valP
    rw [if_neg (by omega), if_neg (by omega)]
    by_cases h5 : (x : Int) = 5
    · rw [if_pos h5, h5]; simp
    · rw [if_neg h5, if_neg (by omega)]; simp [h5]
  have HB := hide (((Below.refl _ W).alloc (Nat.le_refl _) (.cells #[.int .i64 (x : Int), .int .i64 0, .string ⟨#[]⟩, .slice none 0 0, .slice none 0 0, .slice none 0 0] 55)).alloc (by simp) (.cells #[.int .i64 (y : Int), .int .i64 0, .string ⟨#[]⟩, .slice none 0 0, .slice none 0 0, .slice none 0 0] 55))
  have n11 : ((x : Int) == 11) = false := by simp; omega
  have n12 : ((x : Int) == 12) = false := by simp; omega
  have n19 : ((x : Int) == 19) = false := by simp; omega
  have n20 : ((x : Int) == 20) = false := by simp; omega
  rw [hv]
  clear hx hy hv
  show Calls Tryz.prog 130 #[.agg #[.int .i64 (x : Int), .int .i64 0, .string ⟨#[]⟩, .slice none 0 0, .slice none 0 0, .slice none 0 0], .agg #[.int .i64 (y : Int), .int .i64 0, .string ⟨#[]⟩, .slice none 0 0, .slice none 0 0, .slice none 0 0]] W _
  cases h5 : ((x : Int) == 5) with
  | false =>
    go_enter Tryz.func130, Tryz.ntmps130
    go_wp2
    go_ret
    exact ⟨rfl, unhide HB⟩
  | true =>
    cases h4 : ((y : Int) == 4) with
    | false =>
      go_enter Tryz.func130, Tryz.ntmps130
      go_wp2
      go_ret
      exact ⟨rfl, unhide HB⟩
    | true =>
      go_enter Tryz.func130, Tryz.ntmps130
      go_wp2
      go_ret
      exact ⟨rfl, unhide HB⟩
end Go.Proofs.YtapnnbgcdijfpaaGreatDoor

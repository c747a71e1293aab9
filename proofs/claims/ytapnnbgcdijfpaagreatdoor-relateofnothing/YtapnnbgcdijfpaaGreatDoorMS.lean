/- The reference's Asked of two of the ten. -/
import Derived.Deep.MidRow
import Derived.Test.YtapnnbgcdijfpaaGreatDoorMR
namespace Go.Proofs.YtapnnbgcdijfpaaGreatDoor
set_option linter.unusedSimpArgs false
set_option linter.unusedVariables false
set_option maxRecDepth 100000
set_option maxHeartbeats 4000000
open Go.RowKit Go.Shelf

variable {P : Program} {lo M : Nat} {mo : Option Nat} {dv : Value} {L : List Kt} {W : World}
/-- One of the ten taken for another. -/
def askR (x y : Nat) : Bool := decide (x = y) || ((y : Int) == 1) || ((y : Int) == 2) || (if ((x : Int) == 1) then !((y : Int) == 3) else if ((x : Int) == 3) then true else if ((x : Int) == 2) then false else valP x y)
theorem one5a (a b c d : Bool) (p : Option Addr) (n m : Nat) : (#[.bool a, .bool b, .bool c, .bool d, .slice p n m] : Array Value).all (·.oneCell') = true := by simp [Value.oneCell']
theorem rasked_settled (x y : Nat) (hx : 1 ≤ x ∧ x ≤ 10) (hy : 1 ≤ y ∧ y ≤ 10) (s : ByteArray) (r : Bool) (hr : (decide (x = y) = true ∧ r = true) ∨ (decide (x = y) = false ∧ ((y : Int) == 1) = true ∧ r = true) ∨ (decide (x = y) = false ∧ ((y : Int) == 1) = false ∧ ((y : Int) == 2) = true ∧ r = true) ∨ (decide (x = y) = false ∧ ((y : Int) == 1) = false ∧ ((y : Int) == 2) = false ∧ ((x : Int) == 1) = true ∧ ((y : Int) == 3) = true ∧ r = false) ∨ (decide (x = y) = false ∧ ((y : Int) == 1) = false ∧ ((y : Int) == 2) = false ∧ ((x : Int) == 1) = true ∧ ((y : Int) == 3) = false ∧ r = true) ∨ (decide (x = y) = false ∧ ((y : Int) == 1) = false ∧ ((y : Int) == 2) = false ∧ ((x : Int) == 1) = false ∧ ((x : Int) == 3) = true ∧ r = true) ∨ (decide (x = y) = false ∧ ((y : Int) == 1) = false ∧ ((y : Int) == 2) = false ∧ ((x : Int) == 1) = false ∧ ((x : Int) == 3) = false ∧ ((x : Int) == 2) = true ∧ r = false)) (W : World) : Calls Tryz.prog 93 #[.agg (pK x y s), .slice none 0 0] W fun e w' => e = .returned (.agg #[.bool false, .bool true, .bool r, .bool false, .slice none 0 0]) ∧ Below W.heap.size W w' := by
  obtain ⟨W1, hW1⟩ : ∃ W1, (W.alloc (.cells #[.int .i64 (x : Int), .int .i64 0, .string ⟨#[]⟩, .slice none 0 0, .slice none 0 0, .slice none 0 0, .int .i64 (y : Int), .int .i64 0, .string ⟨#[]⟩, .slice none 0 0, .slice none 0 0, .slice none 0 0, .string s] 149)).alloc (.cells #[.bool false, .bool false, .bool false, .bool false, .slice none 0 0] 106) = W1 := ⟨_, rfl⟩
  have hb1 : Below W.heap.size W W1 := by rw [← hW1]; exact ((Below.refl _ W).alloc (Nat.le_refl _) _).alloc (by simp) _
  have hx1 : Bx W1 W.heap.size #[.int .i64 (x : Int), .int .i64 0, .string ⟨#[]⟩, .slice none 0 0, .slice none 0 0, .slice none 0 0, .int .i64 (y : Int), .int .i64 0, .string ⟨#[]⟩, .slice none 0 0, .slice none 0 0, .slice none 0 0, .string s] 149 := by rw [← hW1]; exact (Below.heap_alloc _ _ _ (by simp)).trans (al_at W _)
  have hr1 : Bx W1 (W.heap.size + 1) #[.bool false, .bool false, .bool false, .bool false, .slice none 0 0] 106 := by
    rw [← hW1]
    have := al_at (W.alloc (.cells #[.int .i64 (x : Int), .int .i64 0, .string ⟨#[]⟩, .slice none 0 0, .slice none 0 0, .slice none 0 0, .int .i64 (y : Int), .int .i64 0, .string ⟨#[]⟩, .slice none 0 0, .slice none 0 0, .slice none 0 0, .string s] 149)) (.cells #[.bool false, .bool false, .bool false, .bool false, .slice none 0 0] 106)
    rw [World.size_alloc] at this
    exact this
  obtain ⟨W3, hW3⟩ : ∃ W3, (W1.alloc (.cells #[.int .i64 0, .int .i64 0, .string ⟨#[]⟩, .slice none 0 0, .slice none 0 0, .slice none 0 0] 55)).setRow W1.heap.size #[.int .i64 (x : Int), .int .i64 0, .string ⟨#[]⟩, .slice none 0 0, .slice none 0 0, .slice none 0 0] = W3 := ⟨_, rfl⟩
  have hb3 : Below W1.heap.size W1 W3 := by rw [← hW3]; exact below_row ((Below.refl _ W1).alloc (Nat.le_refl _) _) (Nat.le_refl _) _
  have hx3 : Bx W3 W1.heap.size #[.int .i64 (x : Int), .int .i64 0, .string ⟨#[]⟩, .slice none 0 0, .slice none 0 0, .slice none 0 0] 55 := by rw [← hW3]; exact setRow_at (al_at W1 _)
  obtain ⟨W5, hW5⟩ : ∃ W5, (W3.alloc (.cells #[.int .i64 0, .int .i64 0, .string ⟨#[]⟩, .slice none 0 0, .slice none 0 0, .slice none 0 0] 55)).setRow W3.heap.size #[.int .i64 (y : Int), .int .i64 0, .string ⟨#[]⟩, .slice none 0 0, .slice none 0 0, .slice none 0 0] = W5 := ⟨_, rfl⟩
  have hb5 : Below W3.heap.size W3 W5 := by rw [← hW5]; exact below_row ((Below.refl _ W3).alloc (Nat.le_refl _) _) (Nat.le_refl _) _
  have hy5 : Bx W5 W3.heap.size #[.int .i64 (y : Int), .int .i64 0, .string ⟨#[]⟩, .slice none 0 0, .slice none 0 0, .slice none 0 0] 55 := by rw [← hW5]; exact setRow_at (al_at W3 _)
  have hx5 := hx3.below hb5 hx3.lt
  have hr5 := (hr1.below hb3 hr1.lt).below hb5 (Nat.lt_of_lt_of_le hr1.lt hb3.size)
  have hb15 : Below W.heap.size W W5 := (hb1.trans (hb3.mono hb1.size)).trans (hb5.mono (Nat.le_trans hb1.size hb3.size))
  have HM0 : Hid (W1.rangeAt W.heap.size 0 [.int .i64 (x : Int), .int .i64 0, .string ⟨#[]⟩, .slice none 0 0, .slice none 0 0, .slice none 0 0]) := fun j u hj => by
    match j, hj with
    | 0, hj => simp only [List.getElem?_cons_zero, Option.some.injEq] at hj; subst hj; exact hx1.cell 0 rfl
    | 1, hj => simp at hj; subst hj; exact hx1.cell 1 rfl
    | 2, hj => simp at hj; subst hj; exact hx1.cell 2 rfl
    | 3, hj => simp at hj; subst hj; exact hx1.cell 3 rfl
    | 4, hj => simp at hj; subst hj; exact hx1.cell 4 rfl
    | 5, hj => simp at hj; subst hj; exact hx1.cell 5 rfl
    | j + 6, hj => simp at hj
  have hp3 := hx1.below hb3 hx1.lt
  have HM6 : Hid (W3.rangeAt W.heap.size 6 [.int .i64 (y : Int), .int .i64 0, .string ⟨#[]⟩, .slice none 0 0, .slice none 0 0, .slice none 0 0]) := fun j u hj => by
    match j, hj with
    | 0, hj => simp only [List.getElem?_cons_zero, Option.some.injEq] at hj; subst hj; exact hp3.cell 6 rfl
    | 1, hj => simp at hj; subst hj; exact hp3.cell 7 rfl
    | 2, hj => simp at hj; subst hj; exact hp3.cell 8 rfl
    | 3, hj => simp at hj; subst hj; exact hp3.cell 9 rfl
    | 4, hj => simp at hj; subst hj; exact hp3.cell 10 rfl
    | 5, hj => simp at hj; subst hj; exact hp3.cell 11 rfl
    | j + 6, hj => simp at hj
  have HSA : Hid (∀ w, Calls Tryz.prog 128 #[.agg #[.int .i64 (x : Int), .int .i64 0, .string ⟨#[]⟩, .slice none 0 0, .slice none 0 0, .slice none 0 0], .agg #[.int .i64 (y : Int), .int .i64 0, .string ⟨#[]⟩, .slice none 0 0, .slice none 0 0, .slice none 0 0]] w fun e w' => e = .returned (.bool (decide (x = y))) ∧ Below w.heap.size w w') := fun w => rsame_any x y hx hy w
  have HBA : Hid (∀ w, Calls Tryz.prog 130 #[.agg #[.int .i64 (x : Int), .int .i64 0, .string ⟨#[]⟩, .slice none 0 0, .slice none 0 0, .slice none 0 0], .agg #[.int .i64 (y : Int), .int .i64 0, .string ⟨#[]⟩, .slice none 0 0, .slice none 0 0, .slice none 0 0]] w fun e w' => e = .returned (.bool (valP x y)) ∧ Below w.heap.size w w') := fun w => rbase_any x y hx hy w
  have HPX : Hid (∀ w, Calls Tryz.prog 132 #[.agg #[.int .i64 (x : Int), .int .i64 0, .string ⟨#[]⟩, .slice none 0 0, .slice none 0 0, .slice none 0 0], .slice none 0 0] w fun e w' => e = .returned (.tuple #[.slice none 0 0, .int .i64 11]) ∧ Below w.heap.size w w') := fun w => rpieces_none x hx w
  have HPY : Hid (∀ w, Calls Tryz.prog 132 #[.agg #[.int .i64 (y : Int), .int .i64 0, .string ⟨#[]⟩, .slice none 0 0, .slice none 0 0, .slice none 0 0], .slice none 0 0] w fun e w' => e = .returned (.tuple #[.slice none 0 0, .int .i64 11]) ∧ Below w.heap.size w w') := fun w => rpieces_none y hy w
  have HKN : Hid (∀ b w, Calls Tryz.prog 129 #[.bool b] w fun e w' => e = .returned (.agg #[.bool false, .bool true, .bool b, .bool false, .slice none 0 0]) ∧ Below w.heap.size w w') := fun b w => rknown_any b w
  have n13 : ((x : Int) == 13) = false := by simp; omega
  have n15 : ((x : Int) == 15) = false := by simp; omega
  have n16 : ((x : Int) == 16) = false := by simp; omega
  have m16 : ((y : Int) == 16) = false := by simp; omega
  have HX5 := hide hx5
  have HY5 := hide hy5
  have HR5 := hide hr5
  have HB5 := hide hb15
  have hzr : W.heap.size + 1 < W5.heap.size := hr5.lt
  clear hx1 hr1 hb1 hb3 hx3 hb5 hy5 hx5 hr5 hb15 hp3 hx hy
  rcases hr with ⟨e1, rfl⟩ | ⟨e1, e2, rfl⟩ | ⟨e1, e2, e3, rfl⟩ | ⟨e1, e2, e3, e4, e5, rfl⟩ | ⟨e1, e2, e3, e4, e5, rfl⟩ | ⟨e1, e2, e3, e4, e5, rfl⟩ | ⟨e1, e2, e3, e4, e5, e6, rfl⟩
  all_goals
    show Calls Tryz.prog 93 #[.agg #[.int .i64 (x : Int), .int .i64 0, .string ⟨#[]⟩, .slice none 0 0, .slice none 0 0, .slice none 0 0, .int .i64 (y : Int), .int .i64 0, .string ⟨#[]⟩, .slice none 0 0, .slice none 0 0, .slice none 0 0, .string s], .slice none 0 0] W _
    go_enter Tryz.func93, Tryz.ntmps93
    go_wp2_with (first
      | (refine wpList_load_mid rfl 55 _ rfl W.heap.size 0 rfl _ _ (unhide HM0) Tryz.underlying55 rfl info55 ?_)
      | (refine wpList_load_mid rfl 55 _ rfl W.heap.size 6 rfl _ _ (unhide HM6) Tryz.underlying55 rfl info55 ?_)
      | (refine wpList_store_row rfl 55 _ _ rfl W1.heap.size _ rfl rfl 55 _ (al_at W1 _) info55 rfl (one6 _ _ _ _ _ _ _ _ _ _ _ _) ?_; rw [hW3])
      | (refine wpList_store_row rfl 55 _ _ rfl W3.heap.size _ rfl rfl 55 _ (al_at W3 _) info55 rfl (one6 _ _ _ _ _ _ _ _ _ _ _ _) ?_; rw [hW5])
      | (refine wpList_load_row rfl 55 _ rfl W1.heap.size rfl 55 _ (0, 0) _ (unhide HX8) Tryz.underlying55 rfl info55 ?_)
      | (refine wpList_load_row rfl 55 _ rfl W3.heap.size rfl 55 _ (0, 0) _ (unhide HY8) Tryz.underlying55 rfl info55 ?_)
      | (refine wpList_load_row rfl 55 _ rfl W1.heap.size rfl 55 _ (0, 0) _ (unhide HX7) Tryz.underlying55 rfl info55 ?_)
      | (refine wpList_load_row rfl 55 _ rfl W3.heap.size rfl 55 _ (0, 0) _ (unhide HY7) Tryz.underlying55 rfl info55 ?_)
      | (refine wpList_load_row rfl 55 _ rfl W1.heap.size rfl 55 _ (0, 0) _ (unhide HX6) Tryz.underlying55 rfl info55 ?_)
      | (refine wpList_load_row rfl 55 _ rfl W3.heap.size rfl 55 _ (0, 0) _ (unhide HY6) Tryz.underlying55 rfl info55 ?_)
      | (refine wpList_load_row rfl 55 _ rfl W1.heap.size rfl 55 _ (0, 0) _ (unhide HX5) Tryz.underlying55 rfl info55 ?_)
      | (refine wpList_load_row rfl 55 _ rfl W3.heap.size rfl 55 _ (0, 0) _ (unhide HY5) Tryz.underlying55 rfl info55 ?_)
      | (go_at_call 128
         refine (unhide HSA W5).mono ?_
         rintro e w6 ⟨rfl, hb6⟩
         rw [e1]
         have hx6 := (unhide HX5).below hb6 (unhide HX5).lt
         have hy6 := (unhide HY5).below hb6 (unhide HY5).lt
         have HX6 := hide hx6
         have HY6 := hide hy6
         have HR6 := hide ((unhide HR5).below hb6 (unhide HR5).lt)
         have HB6 := hide ((unhide HB5).trans (hb6.mono (unhide HB5).size))
         have cx := hx6.cell 0 rfl
         have cxl := hx6.lt
         have cy := hy6.cell 0 rfl
         have cyl := hy6.lt
         clear hb6 hx6 hy6)
      | (go_at_call 130
         refine (unhide HBA w6).mono ?_
         rintro e w7 ⟨rfl, hb7⟩
         rw [hv]
         have hx7 := (unhide HX6).below hb7 (unhide HX6).lt
         have hy7 := (unhide HY6).below hb7 (unhide HY6).lt
         have HX7 := hide hx7
         have HY7 := hide hy7
         have HR7 := hide ((unhide HR6).below hb7 (unhide HR6).lt)
         have HB7 := hide ((unhide HB6).trans (hb7.mono (unhide HB6).size))
         have dx := hx7.cell 0 rfl
         have dxl := hx7.lt
         have dy := hy7.cell 0 rfl
         have dyl := hy7.lt
         clear hb7 hx7 hy7)
      | (go_at_call_of 132 (x : Int)
         refine (unhide HPX w7).mono ?_
         rintro e w8 ⟨rfl, hb8⟩
         have HX8 := hide ((unhide HX7).below hb8 (unhide HX7).lt)
         have HY8 := hide ((unhide HY7).below hb8 (unhide HY7).lt)
         have HR8 := hide ((unhide HR7).below hb8 (unhide HR7).lt)
         have HB8 := hide ((unhide HB7).trans (hb8.mono (unhide HB7).size))
         clear hb8)
      | (go_at_call_of 132 (y : Int)
         refine (unhide HPY w8).mono ?_
         rintro e w9 ⟨rfl, hb9⟩
         have HR9 := hide ((unhide HR8).below hb9 (unhide HR8).lt)
         have HB9 := hide ((unhide HB8).trans (hb9.mono (unhide HB8).size))
         clear hb9)
      | (go_at_call 129
         refine (unhide HKN _ _).mono ?_
         rintro e wa ⟨rfl, hba⟩
         have HRA := hide ((unhide HR6).below hba (unhide HR6).lt)
         have HBA' := hide ((unhide HB6).trans (hba.mono (unhide HB6).size))
         clear hba)
      | (refine wpList_store_row rfl 106 _ _ rfl (W.heap.size + 1) _ rfl rfl 106 _ (unhide HRA) info106 rfl (one5a _ _ _ _ _ _ _) ?_))
    refine bodyPost_ret (results_cell_row rfl _ _ (W.heap.size + 1) 106 _ (0, 0) _ rfl (setRow_heap _ _ _ _ _ _ (unhide HRA)) Tryz.underlying106 rfl info106) rfl ?_
    exact ⟨by first | rfl | (simp [bne, e5]; done), below_row (unhide HBA') (by omega) _⟩
theorem rasked_base (x y : Nat) (hx : 1 ≤ x ∧ x ≤ 10) (hy : 1 ≤ y ∧ y ≤ 10) (s : ByteArray) (e1 : decide (x = y) = false) (e2 : ((y : Int) == 1) = false) (e3 : ((y : Int) == 2) = false) (e4 : ((x : Int) == 1) = false) (e5 : ((x : Int) == 3) = false) (e6 : ((x : Int) == 2) = false) (hv : valP x y = true) (W : World) : Calls Tryz.prog 93 #[.agg (pK x y s), .slice none 0 0] W fun e w' => e = .returned (.agg #[.bool false, .bool true, .bool true, .bool false, .slice none 0 0]) ∧ Below W.heap.size W w' := by
  obtain ⟨W1, hW1⟩ : ∃ W1, (W.alloc (.cells #[.int .i64 (x : Int), .int .i64 0, .string ⟨#[]⟩, .slice none 0 0, .slice none 0 0, .slice none 0 0, .int .i64 (y : Int), .int .i64 0, .string ⟨#[]⟩, .slice none 0 0, .slice none 0 0, .slice none 0 0, .string s] 149)).alloc (.cells #[.bool false, .bool false, .bool false, .bool false, .slice none 0 0] 106) = W1 := ⟨_, rfl⟩
  have hb1 : Below W.heap.size W W1 := by rw [← hW1]; exact ((Below.refl _ W).alloc (Nat.le_refl _) _).alloc (by simp) _
  have hx1 : Bx W1 W.heap.size #[.int .i64 (x : Int), .int .i64 0, .string ⟨#[]⟩, .slice none 0 0, .slice none 0 0, .slice none 0 0, .int .i64 (y : Int), .int .i64 0, .string ⟨#[]⟩, .slice none 0 0, .slice none 0 0, .slice none 0 0, .string s] 149 := by rw [← hW1]; exact (Below.heap_alloc _ _ _ (by simp)).trans (al_at W _)
  have hr1 : Bx W1 (W.heap.size + 1) #[.bool false, .bool false, .bool false, .bool false, .slice none 0 0] 106 := by
    rw [← hW1]
    have := al_at (W.alloc (.cells #[.int .i64 (x : Int), .int .i64 0, .string ⟨#[]⟩, .slice none 0 0, .slice none 0 0, .slice none 0 0, .int .i64 (y : Int), .int .i64 0, .string ⟨#[]⟩, .slice none 0 0, .slice none 0 0, .slice none 0 0, .string s] 149)) (.cells #[.bool false, .bool false, .bool false, .bool false, .slice none 0 0] 106)
    rw [World.size_alloc] at this
    exact this
  obtain ⟨W3, hW3⟩ : ∃ W3, (W1.alloc (.cells #[.int .i64 0, .int .i64 0, .string ⟨#[]⟩, .slice none 0 0, .slice none 0 0, .slice none 0 0] 55)).setRow W1.heap.size #[.int .i64 (x : Int), .int .i64 0, .string ⟨#[]⟩, .slice none 0 0, .slice none 0 0, .slice none 0 0] = W3 := ⟨_, rfl⟩
  have hb3 : Below W1.heap.size W1 W3 := by rw [← hW3]; exact below_row ((Below.refl _ W1).alloc (Nat.le_refl _) _) (Nat.le_refl _) _
  have hx3 : Bx W3 W1.heap.size #[.int .i64 (x : Int), .int .i64 0, .string ⟨#[]⟩, .slice none 0 0, .slice none 0 0, .slice none 0 0] 55 := by rw [← hW3]; exact setRow_at (al_at W1 _)
  obtain ⟨W5, hW5⟩ : ∃ W5, (W3.alloc (.cells #[.int .i64 0, .int .i64 0, .string ⟨#[]⟩, .slice none 0 0, .slice none 0 0, .slice none 0 0] 55)).setRow W3.heap.size #[.int .i64 (y : Int), .int .i64 0, .string ⟨#[]⟩, .slice none 0 0, .slice none 0 0, .slice none 0 0] = W5 := ⟨_, rfl⟩
  have hb5 : Below W3.heap.size W3 W5 := by rw [← hW5]; exact below_row ((Below.refl _ W3).alloc (Nat.le_refl _) _) (Nat.le_refl _) _
  have hy5 : Bx W5 W3.heap.size #[.int .i64 (y : Int), .int .i64 0, .string ⟨#[]⟩, .slice none 0 0, .slice none 0 0, .slice none 0 0] 55 := by rw [← hW5]; exact setRow_at (al_at W3 _)
  have hx5 := hx3.below hb5 hx3.lt
  have hr5 := (hr1.below hb3 hr1.lt).below hb5 (Nat.lt_of_lt_of_le hr1.lt hb3.size)
  have hb15 : Below W.heap.size W W5 := (hb1.trans (hb3.mono hb1.size)).trans (hb5.mono (Nat.le_trans hb1.size hb3.size))
  have HM0 : Hid (W1.rangeAt W.heap.size 0 [.int .i64 (x : Int), .int .i64 0, .string ⟨#[]⟩, .slice none 0 0, .slice none 0 0, .slice none 0 0]) := fun j u hj => by
    match j, hj with
    | 0, hj => simp only [List.getElem?_cons_zero, Option.some.injEq] at hj; subst hj; exact hx1.cell 0 rfl
    | 1, hj => simp at hj; subst hj; exact hx1.cell 1 rfl
    | 2, hj => simp at hj; subst hj; exact hx1.cell 2 rfl
    | 3, hj => simp at hj; subst hj; exact hx1.cell 3 rfl
    | 4, hj => simp at hj; subst hj; exact hx1.cell 4 rfl
    | 5, hj => simp at hj; subst hj; exact hx1.cell 5 rfl
    | j + 6, hj => simp at hj
  have hp3 := hx1.below hb3 hx1.lt
  have HM6 : Hid (W3.rangeAt W.heap.size 6 [.int .i64 (y : Int), .int .i64 0, .string ⟨#[]⟩, .slice none 0 0, .slice none 0 0, .slice none 0 0]) := fun j u hj => by
    match j, hj with
    | 0, hj => simp only [List.getElem?_cons_zero, Option.some.injEq] at hj; subst hj; exact hp3.cell 6 rfl
    | 1, hj => simp at hj; subst hj; exact hp3.cell 7 rfl
    | 2, hj => simp at hj; subst hj; exact hp3.cell 8 rfl
    | 3, hj => simp at hj; subst hj; exact hp3.cell 9 rfl
    | 4, hj => simp at hj; subst hj; exact hp3.cell 10 rfl
    | 5, hj => simp at hj; subst hj; exact hp3.cell 11 rfl
    | j + 6, hj => simp at hj
  have HSA : Hid (∀ w, Calls Tryz.prog 128 #[.agg #[.int .i64 (x : Int), .int .i64 0, .string ⟨#[]⟩, .slice none 0 0, .slice none 0 0, .slice none 0 0], .agg #[.int .i64 (y : Int), .int .i64 0, .string ⟨#[]⟩, .slice none 0 0, .slice none 0 0, .slice none 0 0]] w fun e w' => e = .returned (.bool (decide (x = y))) ∧ Below w.heap.size w w') := fun w => rsame_any x y hx hy w
  have HBA : Hid (∀ w, Calls Tryz.prog 130 #[.agg #[.int .i64 (x : Int), .int .i64 0, .string ⟨#[]⟩, .slice none 0 0, .slice none 0 0, .slice none 0 0], .agg #[.int .i64 (y : Int), .int .i64 0, .string ⟨#[]⟩, .slice none 0 0, .slice none 0 0, .slice none 0 0]] w fun e w' => e = .returned (.bool (valP x y)) ∧ Below w.heap.size w w') := fun w => rbase_any x y hx hy w
  have HPX : Hid (∀ w, Calls Tryz.prog 132 #[.agg #[.int .i64 (x : Int), .int .i64 0, .string ⟨#[]⟩, .slice none 0 0, .slice none 0 0, .slice none 0 0], .slice none 0 0] w fun e w' => e = .returned (.tuple #[.slice none 0 0, .int .i64 11]) ∧ Below w.heap.size w w') := fun w => rpieces_none x hx w
  have HPY : Hid (∀ w, Calls Tryz.prog 132 #[.agg #[.int .i64 (y : Int), .int .i64 0, .string ⟨#[]⟩, .slice none 0 0, .slice none 0 0, .slice none 0 0], .slice none 0 0] w fun e w' => e = .returned (.tuple #[.slice none 0 0, .int .i64 11]) ∧ Below w.heap.size w w') := fun w => rpieces_none y hy w
  have HKN : Hid (∀ b w, Calls Tryz.prog 129 #[.bool b] w fun e w' => e = .returned (.agg #[.bool false, .bool true, .bool b, .bool false, .slice none 0 0]) ∧ Below w.heap.size w w') := fun b w => rknown_any b w
  have n13 : ((x : Int) == 13) = false := by simp; omega
  have n15 : ((x : Int) == 15) = false := by simp; omega
  have n16 : ((x : Int) == 16) = false := by simp; omega
  have m16 : ((y : Int) == 16) = false := by simp; omega
  have HX5 := hide hx5
  have HY5 := hide hy5
  have HR5 := hide hr5
  have HB5 := hide hb15
  have hzr : W.heap.size + 1 < W5.heap.size := hr5.lt
  clear hx1 hr1 hb1 hb3 hx3 hb5 hy5 hx5 hr5 hb15 hp3 hx hy
  focus
    show Calls Tryz.prog 93 #[.agg #[.int .i64 (x : Int), .int .i64 0, .string ⟨#[]⟩, .slice none 0 0, .slice none 0 0, .slice none 0 0, .int .i64 (y : Int), .int .i64 0, .string ⟨#[]⟩, .slice none 0 0, .slice none 0 0, .slice none 0 0, .string s], .slice none 0 0] W _
    go_enter Tryz.func93, Tryz.ntmps93
    go_wp2_with (first
      | (refine wpList_load_mid rfl 55 _ rfl W.heap.size 0 rfl _ _ (unhide HM0) Tryz.underlying55 rfl info55 ?_)
      | (refine wpList_load_mid rfl 55 _ rfl W.heap.size 6 rfl _ _ (unhide HM6) Tryz.underlying55 rfl info55 ?_)
      | (refine wpList_store_row rfl 55 _ _ rfl W1.heap.size _ rfl rfl 55 _ (al_at W1 _) info55 rfl (one6 _ _ _ _ _ _ _ _ _ _ _ _) ?_; rw [hW3])
      | (refine wpList_store_row rfl 55 _ _ rfl W3.heap.size _ rfl rfl 55 _ (al_at W3 _) info55 rfl (one6 _ _ _ _ _ _ _ _ _ _ _ _) ?_; rw [hW5])
      | (refine wpList_load_row rfl 55 _ rfl W1.heap.size rfl 55 _ (0, 0) _ (unhide HX8) Tryz.underlying55 rfl info55 ?_)
      | (refine wpList_load_row rfl 55 _ rfl W3.heap.size rfl 55 _ (0, 0) _ (unhide HY8) Tryz.underlying55 rfl info55 ?_)
      | (refine wpList_load_row rfl 55 _ rfl W1.heap.size rfl 55 _ (0, 0) _ (unhide HX7) Tryz.underlying55 rfl info55 ?_)
      | (refine wpList_load_row rfl 55 _ rfl W3.heap.size rfl 55 _ (0, 0) _ (unhide HY7) Tryz.underlying55 rfl info55 ?_)
      | (refine wpList_load_row rfl 55 _ rfl W1.heap.size rfl 55 _ (0, 0) _ (unhide HX6) Tryz.underlying55 rfl info55 ?_)
      | (refine wpList_load_row rfl 55 _ rfl W3.heap.size rfl 55 _ (0, 0) _ (unhide HY6) Tryz.underlying55 rfl info55 ?_)
      | (refine wpList_load_row rfl 55 _ rfl W1.heap.size rfl 55 _ (0, 0) _ (unhide HX5) Tryz.underlying55 rfl info55 ?_)
      | (refine wpList_load_row rfl 55 _ rfl W3.heap.size rfl 55 _ (0, 0) _ (unhide HY5) Tryz.underlying55 rfl info55 ?_)
      | (go_at_call 128
         refine (unhide HSA W5).mono ?_
         rintro e w6 ⟨rfl, hb6⟩
         rw [e1]
         have hx6 := (unhide HX5).below hb6 (unhide HX5).lt
         have hy6 := (unhide HY5).below hb6 (unhide HY5).lt
         have HX6 := hide hx6
         have HY6 := hide hy6
         have HR6 := hide ((unhide HR5).below hb6 (unhide HR5).lt)
         have HB6 := hide ((unhide HB5).trans (hb6.mono (unhide HB5).size))
         have cx := hx6.cell 0 rfl
         have cxl := hx6.lt
         have cy := hy6.cell 0 rfl
         have cyl := hy6.lt
         clear hb6 hx6 hy6)
      | (go_at_call 130
         refine (unhide HBA w6).mono ?_
         rintro e w7 ⟨rfl, hb7⟩
         rw [hv]
         have hx7 := (unhide HX6).below hb7 (unhide HX6).lt
         have hy7 := (unhide HY6).below hb7 (unhide HY6).lt
         have HX7 := hide hx7
         have HY7 := hide hy7
         have HR7 := hide ((unhide HR6).below hb7 (unhide HR6).lt)
         have HB7 := hide ((unhide HB6).trans (hb7.mono (unhide HB6).size))
         have dx := hx7.cell 0 rfl
         have dxl := hx7.lt
         have dy := hy7.cell 0 rfl
         have dyl := hy7.lt
         clear hb7 hx7 hy7)
      | (go_at_call_of 132 (x : Int)
         refine (unhide HPX w7).mono ?_
         rintro e w8 ⟨rfl, hb8⟩
         have HX8 := hide ((unhide HX7).below hb8 (unhide HX7).lt)
         have HY8 := hide ((unhide HY7).below hb8 (unhide HY7).lt)
         have HR8 := hide ((unhide HR7).below hb8 (unhide HR7).lt)
         have HB8 := hide ((unhide HB7).trans (hb8.mono (unhide HB7).size))
         clear hb8)
      | (go_at_call_of 132 (y : Int)
         refine (unhide HPY w8).mono ?_
         rintro e w9 ⟨rfl, hb9⟩
         have HR9 := hide ((unhide HR8).below hb9 (unhide HR8).lt)
         have HB9 := hide ((unhide HB8).trans (hb9.mono (unhide HB8).size))
         clear hb9)
      | (go_at_call 129
         refine (unhide HKN _ _).mono ?_
         rintro e wa ⟨rfl, hba⟩
         have HRA := hide ((unhide HR7).below hba (unhide HR7).lt)
         have HBA' := hide ((unhide HB7).trans (hba.mono (unhide HB7).size))
         clear hba)
      | (refine wpList_store_row rfl 106 _ _ rfl (W.heap.size + 1) _ rfl rfl 106 _ (unhide HRA) info106 rfl (one5a _ _ _ _ _ _ _) ?_))
    refine bodyPost_ret (results_cell_row rfl _ _ (W.heap.size + 1) 106 _ (0, 0) _ rfl (setRow_heap _ _ _ _ _ _ (unhide HRA)) Tryz.underlying106 rfl info106) rfl ?_
    exact ⟨by first | rfl | (simp [bne, e5]; done), below_row (unhide HBA') (by omega) _⟩
theorem rasked_none (x y : Nat) (hx : 1 ≤ x ∧ x ≤ 10) (hy : 1 ≤ y ∧ y ≤ 10) (s : ByteArray) (e1 : decide (x = y) = false) (e2 : ((y : Int) == 1) = false) (e3 : ((y : Int) == 2) = false) (e4 : ((x : Int) == 1) = false) (e5 : ((x : Int) == 3) = false) (e6 : ((x : Int) == 2) = false) (hv : valP x y = false) (W : World) : Calls Tryz.prog 93 #[.agg (pK x y s), .slice none 0 0] W fun e w' => e = .returned (.agg #[.bool false, .bool true, .bool false, .bool false, .slice none 0 0]) ∧ Below W.heap.size W w' := by
  obtain ⟨W1, hW1⟩ : ∃ W1, (W.alloc (.cells #[.int .i64 (x : Int), .int .i64 0, .string ⟨#[]⟩, .slice none 0 0, .slice none 0 0, .slice none 0 0, .int .i64 (y : Int), .int .i64 0, .string ⟨#[]⟩, .slice none 0 0, .slice none 0 0, .slice none 0 0, .string s] 149)).alloc (.cells #[.bool false, .bool false, .bool false, .bool false, .slice none 0 0] 106) = W1 := ⟨_, rfl⟩
  have hb1 : Below W.heap.size W W1 := by rw [← hW1]; exact ((Below.refl _ W).alloc (Nat.le_refl _) _).alloc (by simp) _
  have hx1 : Bx W1 W.heap.size #[.int .i64 (x : Int), .int .i64 0, .string ⟨#[]⟩, .slice none 0 0, .slice none 0 0, .slice none 0 0, .int .i64 (y : Int), .int .i64 0, .string ⟨#[]⟩, .slice none 0 0, .slice none 0 0, .slice none 0 0, .string s] 149 := by rw [← hW1]; exact (Below.heap_alloc _ _ _ (by simp)).trans (al_at W _)
  have hr1 : Bx W1 (W.heap.size + 1) #[.bool false, .bool false, .bool false, .bool false, .slice none 0 0] 106 := by
    rw [← hW1]
    have := al_at (W.alloc (.cells #[.int .i64 (x : Int), .int .i64 0, .string ⟨#[]⟩, .slice none 0 0, .slice none 0 0, .slice none 0 0, .int .i64 (y : Int), .int .i64 0, .string ⟨#[]⟩, .slice none 0 0, .slice none 0 0, .slice none 0 0, .string s] 149)) (.cells #[.bool false, .bool false, .bool false, .bool false, .slice none 0 0] 106)
    rw [World.size_alloc] at this
    exact this
  obtain ⟨W3, hW3⟩ : ∃ W3, (W1.alloc (.cells #[.int .i64 0, .int .i64 0, .string ⟨#[]⟩, .slice none 0 0, .slice none 0 0, .slice none 0 0] 55)).setRow W1.heap.size #[.int .i64 (x : Int), .int .i64 0, .string ⟨#[]⟩, .slice none 0 0, .slice none 0 0, .slice none 0 0] = W3 := ⟨_, rfl⟩
  have hb3 : Below W1.heap.size W1 W3 := by rw [← hW3]; exact below_row ((Below.refl _ W1).alloc (Nat.le_refl _) _) (Nat.le_refl _) _
  have hx3 : Bx W3 W1.heap.size #[.int .i64 (x : Int), .int .i64 0, .string ⟨#[]⟩, .slice none 0 0, .slice none 0 0, .slice none 0 0] 55 := by rw [← hW3]; exact setRow_at (al_at W1 _)
  obtain ⟨W5, hW5⟩ : ∃ W5, (W3.alloc (.cells #[.int .i64 0, .int .i64 0, .string ⟨#[]⟩, .slice none 0 0, .slice none 0 0, .slice none 0 0] 55)).setRow W3.heap.size #[.int .i64 (y : Int), .int .i64 0, .string ⟨#[]⟩, .slice none 0 0, .slice none 0 0, .slice none 0 0] = W5 := ⟨_, rfl⟩
  have hb5 : Below W3.heap.size W3 W5 := by rw [← hW5]; exact below_row ((Below.refl _ W3).alloc (Nat.le_refl _) _) (Nat.le_refl _) _
  have hy5 : Bx W5 W3.heap.size #[.int .i64 (y : Int), .int .i64 0, .string ⟨#[]⟩, .slice none 0 0, .slice none 0 0, .slice none 0 0] 55 := by rw [← hW5]; exact setRow_at (al_at W3 _)
  have hx5 := hx3.below hb5 hx3.lt
  have hr5 := (hr1.below hb3 hr1.lt).below hb5 (Nat.lt_of_lt_of_le hr1.lt hb3.size)
  have hb15 : Below W.heap.size W W5 := (hb1.trans (hb3.mono hb1.size)).trans (hb5.mono (Nat.le_trans hb1.size hb3.size))
  have HM0 : Hid (W1.rangeAt W.heap.size 0 [.int .i64 (x : Int), .int .i64 0, .string ⟨#[]⟩, .slice none 0 0, .slice none 0 0, .slice none 0 0]) := fun j u hj => by
    match j, hj with
    | 0, hj => simp only [List.getElem?_cons_zero, Option.some.injEq] at hj; subst hj; exact hx1.cell 0 rfl
    | 1, hj => simp at hj; subst hj; exact hx1.cell 1 rfl
    | 2, hj => simp at hj; subst hj; exact hx1.cell 2 rfl
    | 3, hj => simp at hj; subst hj; exact hx1.cell 3 rfl
    | 4, hj => simp at hj; subst hj; exact hx1.cell 4 rfl
    | 5, hj => simp at hj; subst hj; exact hx1.cell 5 rfl
    | j + 6, hj => simp at hj
  have hp3 := hx1.below hb3 hx1.lt
  have HM6 : Hid (W3.rangeAt W.heap.size 6 [.int .i64 (y : Int), .int .i64 0, .string ⟨#[]⟩, .slice none 0 0, .slice none 0 0, .slice none 0 0]) := fun j u hj => by
    match j, hj with
    | 0, hj => simp only [List.getElem?_cons_zero, Option.some.injEq] at hj; subst hj; exact hp3.cell 6 rfl
    | 1, hj => simp at hj; subst hj; exact hp3.cell 7 rfl
    | 2, hj => simp at hj; subst hj; exact hp3.cell 8 rfl
    | 3, hj => simp at hj; subst hj; exact hp3.cell 9 rfl
    | 4, hj => simp at hj; subst hj; exact hp3.cell 10 rfl
    | 5, hj => simp at hj; subst hj; exact hp3.cell 11 rfl
    | j + 6, hj => simp at hj
  have HSA : Hid (∀ w, Calls Tryz.prog 128 #[.agg #[.int .i64 (x : Int), .int .i64 0, .string ⟨#[]⟩, .slice none 0 0, .slice none 0 0, .slice none 0 0], .agg #[.int .i64 (y : Int), .int .i64 0, .string ⟨#[]⟩, .slice none 0 0, .slice none 0 0, .slice none 0 0]] w fun e w' => e = .returned (.bool (decide (x = y))) ∧ Below w.heap.size w w') := fun w => rsame_any x y hx hy w
  have HBA : Hid (∀ w, Calls Tryz.prog 130 #[.agg #[.int .i64 (x : Int), .int .i64 0, .string ⟨#[]⟩, .slice none 0 0, .slice none 0 0, .slice none 0 0], .agg #[.int .i64 (y : Int), .int .i64 0, .string ⟨#[]⟩, .slice none 0 0, .slice none 0 0, .slice none 0 0]] w fun e w' => e = .returned (.bool (valP x y)) ∧ Below w.heap.size w w') := fun w => rbase_any x y hx hy w
  have HPX : Hid (∀ w, Calls Tryz.prog 132 #[.agg #[.int .i64 (x : Int), .int .i64 0, .string ⟨#[]⟩, .slice none 0 0, .slice none 0 0, .slice none 0 0], .slice none 0 0] w fun e w' => e = .returned (.tuple #[.slice none 0 0, .int .i64 11]) ∧ Below w.heap.size w w') := fun w => rpieces_none x hx w
  have HPY : Hid (∀ w, Calls Tryz.prog 132 #[.agg #[.int .i64 (y : Int), .int .i64 0, .string ⟨#[]⟩, .slice none 0 0, .slice none 0 0, .slice none 0 0], .slice none 0 0] w fun e w' => e = .returned (.tuple #[.slice none 0 0, .int .i64 11]) ∧ Below w.heap.size w w') := fun w => rpieces_none y hy w
  have HKN : Hid (∀ b w, Calls Tryz.prog 129 #[.bool b] w fun e w' => e = .returned (.agg #[.bool false, .bool true, .bool b, .bool false, .slice none 0 0]) ∧ Below w.heap.size w w') := fun b w => rknown_any b w
  have n13 : ((x : Int) == 13) = false := by simp; omega
  have n15 : ((x : Int) == 15) = false := by simp; omega
  have n16 : ((x : Int) == 16) = false := by simp; omega
  have m16 : ((y : Int) == 16) = false := by simp; omega
  have HX5 := hide hx5
  have HY5 := hide hy5
  have HR5 := hide hr5
  have HB5 := hide hb15
  have hzr : W.heap.size + 1 < W5.heap.size := hr5.lt
  clear hx1 hr1 hb1 hb3 hx3 hb5 hy5 hx5 hr5 hb15 hp3 hx hy
  focus
    show Calls Tryz.prog 93 #[.agg #[.int .i64 (x : Int), .int .i64 0, .string ⟨#[]⟩, .slice none 0 0, .slice none 0 0, .slice none 0 0, .int .i64 (y : Int), .int .i64 0, .string ⟨#[]⟩, .slice none 0 0, .slice none 0 0, .slice none 0 0, .string s], .slice none 0 0] W _
    go_enter Tryz.func93, Tryz.ntmps93
    go_wp2_with (first
      | (refine wpList_load_mid rfl 55 _ rfl W.heap.size 0 rfl _ _ (unhide HM0) Tryz.underlying55 rfl info55 ?_)
      | (refine wpList_load_mid rfl 55 _ rfl W.heap.size 6 rfl _ _ (unhide HM6) Tryz.underlying55 rfl info55 ?_)
      | (refine wpList_store_row rfl 55 _ _ rfl W1.heap.size _ rfl rfl 55 _ (al_at W1 _) info55 rfl (one6 _ _ _ _ _ _ _ _ _ _ _ _) ?_; rw [hW3])
      | (refine wpList_store_row rfl 55 _ _ rfl W3.heap.size _ rfl rfl 55 _ (al_at W3 _) info55 rfl (one6 _ _ _ _ _ _ _ _ _ _ _ _) ?_; rw [hW5])
      | (refine wpList_load_row rfl 55 _ rfl W1.heap.size rfl 55 _ (0, 0) _ (unhide HX8) Tryz.underlying55 rfl info55 ?_)
      | (refine wpList_load_row rfl 55 _ rfl W3.heap.size rfl 55 _ (0, 0) _ (unhide HY8) Tryz.underlying55 rfl info55 ?_)
      | (refine wpList_load_row rfl 55 _ rfl W1.heap.size rfl 55 _ (0, 0) _ (unhide HX7) Tryz.underlying55 rfl info55 ?_)
      | (refine wpList_load_row rfl 55 _ rfl W3.heap.size rfl 55 _ (0, 0) _ (unhide HY7) Tryz.underlying55 rfl info55 ?_)
      | (refine wpList_load_row rfl 55 _ rfl W1.heap.size rfl 55 _ (0, 0) _ (unhide HX6) Tryz.underlying55 rfl info55 ?_)
      | (refine wpList_load_row rfl 55 _ rfl W3.heap.size rfl 55 _ (0, 0) _ (unhide HY6) Tryz.underlying55 rfl info55 ?_)
      | (refine wpList_load_row rfl 55 _ rfl W1.heap.size rfl 55 _ (0, 0) _ (unhide HX5) Tryz.underlying55 rfl info55 ?_)
      | (refine wpList_load_row rfl 55 _ rfl W3.heap.size rfl 55 _ (0, 0) _ (unhide HY5) Tryz.underlying55 rfl info55 ?_)
      | (go_at_call 128
         refine (unhide HSA W5).mono ?_
         rintro e w6 ⟨rfl, hb6⟩
         rw [e1]
         have hx6 := (unhide HX5).below hb6 (unhide HX5).lt
         have hy6 := (unhide HY5).below hb6 (unhide HY5).lt
         have HX6 := hide hx6
         have HY6 := hide hy6
         have HR6 := hide ((unhide HR5).below hb6 (unhide HR5).lt)
         have HB6 := hide ((unhide HB5).trans (hb6.mono (unhide HB5).size))
         have cx := hx6.cell 0 rfl
         have cxl := hx6.lt
         have cy := hy6.cell 0 rfl
         have cyl := hy6.lt
         clear hb6 hx6 hy6)
      | (go_at_call 130
         refine (unhide HBA w6).mono ?_
         rintro e w7 ⟨rfl, hb7⟩
         rw [hv]
         have hx7 := (unhide HX6).below hb7 (unhide HX6).lt
         have hy7 := (unhide HY6).below hb7 (unhide HY6).lt
         have HX7 := hide hx7
         have HY7 := hide hy7
         have HR7 := hide ((unhide HR6).below hb7 (unhide HR6).lt)
         have HB7 := hide ((unhide HB6).trans (hb7.mono (unhide HB6).size))
         have dx := hx7.cell 0 rfl
         have dxl := hx7.lt
         have dy := hy7.cell 0 rfl
         have dyl := hy7.lt
         clear hb7 hx7 hy7)
      | (go_at_call_of 132 (x : Int)
         refine (unhide HPX w7).mono ?_
         rintro e w8 ⟨rfl, hb8⟩
         have HX8 := hide ((unhide HX7).below hb8 (unhide HX7).lt)
         have HY8 := hide ((unhide HY7).below hb8 (unhide HY7).lt)
         have HR8 := hide ((unhide HR7).below hb8 (unhide HR7).lt)
         have HB8 := hide ((unhide HB7).trans (hb8.mono (unhide HB7).size))
         clear hb8)
      | (go_at_call_of 132 (y : Int)
         refine (unhide HPY w8).mono ?_
         rintro e w9 ⟨rfl, hb9⟩
         have HR9 := hide ((unhide HR8).below hb9 (unhide HR8).lt)
         have HB9 := hide ((unhide HB8).trans (hb9.mono (unhide HB8).size))
         clear hb9)
      | (go_at_call 129
         refine (unhide HKN _ _).mono ?_
         rintro e wa ⟨rfl, hba⟩
         have HRA := hide ((unhide HR9).below hba (unhide HR9).lt)
         have HBA' := hide ((unhide HB9).trans (hba.mono (unhide HB9).size))
         clear hba)
      | (refine wpList_store_row rfl 106 _ _ rfl (W.heap.size + 1) _ rfl rfl 106 _ (unhide HRA) info106 rfl (one5a _ _ _ _ _ _ _) ?_))
    refine bodyPost_ret (results_cell_row rfl _ _ (W.heap.size + 1) 106 _ (0, 0) _ rfl (setRow_heap _ _ _ _ _ _ (unhide HRA)) Tryz.underlying106 rfl info106) rfl ?_
    exact ⟨by first | rfl | (simp [bne, e5]; done), below_row (unhide HBA') (by omega) _⟩
theorem rasked_any (x y : Nat) (hx : 1 ≤ x ∧ x ≤ 10) (hy : 1 ≤ y ∧ y ≤ 10) (s : ByteArray) (W : World) : Calls Tryz.prog 93 #[.agg (pK x y s), .slice none 0 0] W fun e w' => e = .returned (.agg (aK (askR x y))) ∧ Below W.heap.size W w' := by
  unfold askR
  cases e1 : decide (x = y) with
  | true => exact rasked_settled x y hx hy s _ (.inl ⟨e1, rfl⟩) W
  | false =>
  cases e2 : ((y : Int) == 1) with
  | true => exact rasked_settled x y hx hy s _ (.inr (.inl ⟨e1, e2, rfl⟩)) W
  | false =>
  cases e3 : ((y : Int) == 2) with
  | true => exact rasked_settled x y hx hy s _ (.inr (.inr (.inl ⟨e1, e2, e3, rfl⟩))) W
  | false =>
  cases e4 : ((x : Int) == 1) with
  | true =>
    cases e5 : ((y : Int) == 3) with
    | true => exact rasked_settled x y hx hy s _ (.inr (.inr (.inr (.inl ⟨e1, e2, e3, e4, e5, rfl⟩)))) W
    | false => exact rasked_settled x y hx hy s _ (.inr (.inr (.inr (.inr (.inl ⟨e1, e2, e3, e4, e5, rfl⟩))))) W
  | false =>
  cases e5 : ((x : Int) == 3) with
  | true => exact rasked_settled x y hx hy s _ (.inr (.inr (.inr (.inr (.inr (.inl ⟨e1, e2, e3, e4, e5, rfl⟩)))))) W
  | false =>
  cases e6 : ((x : Int) == 2) with
  | true => exact rasked_settled x y hx hy s _ (.inr (.inr (.inr (.inr (.inr (.inr ⟨e1, e2, e3, e4, e5, e6, rfl⟩)))))) W
  | false =>
  cases hv : valP x y with
  | true => exact rasked_base x y hx hy s e1 e2 e3 e4 e5 e6 hv W
  | false => exact rasked_none x y hx hy s e1 e2 e3 e4 e5 e6 hv W
end Go.Proofs.YtapnnbgcdijfpaaGreatDoor

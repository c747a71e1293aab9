/- Small functions of relate. -/
import Derived.Test.YtapnnbgcdijfpaaGreatDoorKF
namespace Go.Proofs.YtapnnbgcdijfpaaGreatDoor
set_option linter.unusedSimpArgs false
set_option linter.unusedVariables false
set_option maxRecDepth 100000
set_option maxHeartbeats 4000000
open Go.RowKit Go.Shelf

theorem rhas_any (w : World) (M : Nat) (a : Option Addr) (n c : Nat) (h : w.cell? ⟨M, 0, none⟩ = some (.slice a n c)) (id : Int) : Calls Tryz.prog 86 #[.pointer (some ⟨M, 0, none⟩), .int .i64 id] w fun e w' => e = .returned (.bool (decide (0 ≤ id ∧ id < (n : Int)))) ∧ w' = w := by
  have HL := hide (len_any w M a n c h)
  clear h
  by_cases h0 : 0 ≤ id
  · go_enter Tryz.func86, Tryz.ntmps86
    go_wp2_with (go_at_call 18; refine (unhide HL).mono ?_; rintro e w' ⟨rfl, rfl⟩)
    go_ret
    exact ⟨by simp [h0], rfl⟩
  · go_enter Tryz.func86, Tryz.ntmps86
    go_wp2
    go_ret
    exact ⟨by simp; omega, rfl⟩
theorem ask_nil (w : World) (x y : Int) : Calls Tryz.prog 49 #[.pointer none, .int .i64 x, .int .i64 y] w fun e w' => e = .returned (.int .i64 1) ∧ w' = w := by
  go_enter Tryz.func49, Tryz.ntmps49
  go_wp2
  go_ret
  exact ⟨rfl, rfl⟩
def inP (n : Nat) (id : Int) : Bool := decide (0 ≤ id ∧ id < (n : Int))
theorem ask_any (w : World) (M : Nat) (a : Option Addr) (n c : Nat) (h : w.cell? ⟨M, 0, none⟩ = some (.slice a n c)) (x y : Int) : Calls Tryz.prog 49 #[.pointer (some ⟨M, 0, none⟩), .int .i64 x, .int .i64 y] w fun e w' => e = .returned (.int .i64 (if inP n x && inP n y then 0 else 11)) ∧ w' = w := by
  have HX : Hid (Calls Tryz.prog 86 #[.pointer (some ⟨M, 0, none⟩), .int .i64 x] w fun e w' => e = .returned (.bool (inP n x)) ∧ w' = w) := rhas_any w M a n c h x
  have HY : Hid (Calls Tryz.prog 86 #[.pointer (some ⟨M, 0, none⟩), .int .i64 y] w fun e w' => e = .returned (.bool (inP n y)) ∧ w' = w) := rhas_any w M a n c h y
  clear h
  obtain ⟨p, hp⟩ : ∃ p, inP n x = p := ⟨_, rfl⟩
  obtain ⟨q, hq⟩ : ∃ q, inP n y = q := ⟨_, rfl⟩
  rw [hp] at HX ⊢
  rw [hq] at HY ⊢
  clear hp hq
  cases p <;> cases q
  all_goals
    go_enter Tryz.func49, Tryz.ntmps49
    go_wp2_with (first | (go_at_call_of 86 x; refine (unhide HX).mono ?_; rintro e w' ⟨rfl, rfl⟩) | (go_at_call_of 86 y; refine (unhide HY).mono ?_; rintro e w' ⟨rfl, rfl⟩))
    go_ret
    exact ⟨rfl, rfl⟩
theorem isYes_any (w : World) (x y s : Int) (v : Value) : Calls Tryz.prog 91 #[.agg #[.int .i64 x, .int .i64 y, .int .i64 s, v]] w fun e w' => e = .returned (.bool (decide (0 ≤ s))) ∧ Below w.heap.size w w' := by
  go_enter Tryz.func91, Tryz.ntmps91
  go_wp2
  go_ret
  exact ⟨rfl, (Below.refl _ w).alloc (Nat.le_refl _) _⟩
theorem info143 : (Tryz.prog.info? 143).map (·.size) = some 2 := by kernel_rfl
theorem one2q (a : Option Addr) (n c : Nat) (s : Int) : (#[.slice a n c, .int .i64 s] : Array Value).all (·.oneCell') = true := by simp [Value.oneCell']
theorem all_none (w : World) : Calls Tryz.prog 120 #[.slice none 0 0] w fun e w' => e = .returned (.agg #[.slice none 0 0, .int .i64 0]) ∧ Below w.heap.size w w' := by
  have HB := hide ((Below.refl _ w).alloc (Nat.le_refl _) (.cells #[.slice none 0 0, .int .i64 0] 143))
  go_enter Tryz.func120, Tryz.ntmps120
  go_wp2_with (refine wpList_store_row rfl 143 _ _ rfl w.heap.size _ rfl rfl 143 _ (al_at w _) info143 rfl (one2q _ _ _ _) ?_)
  refine bodyPost_ret (results_cell_row rfl _ _ w.heap.size 143 _ (0, 0) _ rfl (setRow_heap _ _ _ _ _ _ (al_at w _)) Tryz.underlying143 rfl info143) rfl ?_
  exact ⟨rfl, below_row (unhide HB) (Nat.le_refl _) _⟩
theorem one_none (w : World) : Calls Tryz.prog 122 #[.slice none 0 0] w fun e w' => e = .returned (.agg #[.slice none 0 0, .int .i64 (-1)]) ∧ Below w.heap.size w w' := by
  have HB := hide ((Below.refl _ w).alloc (Nat.le_refl _) (.cells #[.slice none 0 0, .int .i64 0] 143))
  go_enter Tryz.func122, Tryz.ntmps122
  go_wp2_with (refine wpList_store_row rfl 143 _ _ rfl w.heap.size _ rfl rfl 143 _ (al_at w _) info143 rfl (one2q _ _ _ _) ?_)
  refine bodyPost_ret (results_cell_row rfl _ _ w.heap.size 143 _ (0, 0) _ rfl (setRow_heap _ _ _ _ _ _ (al_at w _)) Tryz.underlying143 rfl info143) rfl ?_
  exact ⟨rfl, below_row (unhide HB) (Nat.le_refl _) _⟩
/-- What is settled: none to ask, and none to spare or less. -/
def spP (b : Bool) : Int := match b with
  | true => 0
  | false => -1
theorem settledAs_any (w : World) (b : Bool) : Calls Tryz.prog 119 #[.bool b] w fun e w' => e = .returned (.agg #[.slice none 0 0, .int .i64 (spP b)]) ∧ Below w.heap.size w w' := by
  have hb := (Below.refl _ w).alloc (Nat.le_refl _) (.cells #[.slice none 0 0, .int .i64 0] 143)
  have hc : Bx (w.alloc (.cells #[.slice none 0 0, .int .i64 0] 143)) w.heap.size #[.slice none 0 0, .int .i64 0] 143 := al_at w _
  have HB := hide hb
  have HC := hide hc
  have HL := hide hc.lt
  clear hb hc
  cases b
  all_goals
    go_enter Tryz.func119, Tryz.ntmps119
    go_wp2_with (first
      | (go_at_call 120
         refine (all_none _).mono ?_
         rintro e w2 ⟨rfl, hb2⟩
         have HC2 := hide ((unhide HC).below hb2 (unhide HL))
         have HB2 := hide ((unhide HB).trans (hb2.mono (unhide HB).size))
         clear hb2)
      | (go_at_call 122
         refine (one_none _).mono ?_
         rintro e w2 ⟨rfl, hb2⟩
         have HC2 := hide ((unhide HC).below hb2 (unhide HL))
         have HB2 := hide ((unhide HB).trans (hb2.mono (unhide HB).size))
         clear hb2)
      | (refine wpList_store_row rfl 143 _ _ rfl w.heap.size _ rfl rfl 143 _ (unhide HC2) info143 rfl (one2q _ _ _ _) ?_))
    refine bodyPost_ret (results_cell_row rfl _ _ w.heap.size 143 _ (0, 0) _ rfl (setRow_heap _ _ _ _ _ _ (unhide HC2)) Tryz.underlying143 rfl info143) rfl ?_
    exact ⟨rfl, below_row (unhide HB2) (Nat.le_refl _) _⟩
end Go.Proofs.YtapnnbgcdijfpaaGreatDoor

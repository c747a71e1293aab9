/- shucklaw1.known answers true, in whatever memory. -/
import Derived.Test.YtponficlejjafabDoorD1
namespace Go.Proofs.YtponficlejjafabDoor
set_option linter.unusedSimpArgs false
set_option linter.unusedVariables false
open Go.RowKit Go.Shelf

/-- What stands for the two runes of the known text. -/
def quoK (r : Int) : List UInt8 := if r = 97 then [97] else [92, 110]

set_option maxHeartbeats 400000 in
theorem quoted_97 (w : World) : Calls Tryd.prog 42 #[.int .i32 97] w fun e w' => e = .returned (.string ⟨#[97]⟩) ∧ Below w.heap.size w w' := by
  go_enter Tryd.func42, Tryd.ntmps42
  go_wp2
  go_ret
  exact ⟨rfl, Below.refl _ _⟩
set_option maxHeartbeats 400000 in
theorem quoted_10 (w : World) : Calls Tryd.prog 42 #[.int .i32 10] w fun e w' => e = .returned (.string ⟨#[92, 110]⟩) ∧ Below w.heap.size w w' := by
  go_enter Tryd.func42, Tryd.ntmps42
  go_wp2
  go_ret
  exact ⟨rfl, Below.refl _ _⟩

/-- The bytes of the two known rows. -/
def gK1 (j : Nat) : Int := [195, 169].getD j 0
def gK2 (j : Nat) : Int := [97, 10, 195, 169, 98].getD j 0
theorem gK1_bd (j : Nat) : 0 ≤ gK1 j ∧ gK1 j ≤ 255 := by
  match j with
  | 0 => decide
  | 1 => decide
  | _ + 2 => exact ⟨Int.le_refl 0, by show (0 : Int) ≤ 255; decide⟩
theorem gK2_bd (j : Nat) : 0 ≤ gK2 j ∧ gK2 j ≤ 255 := by
  match j with
  | 0 => decide
  | 1 => decide
  | 2 => decide
  | 3 => decide
  | 4 => decide
  | _ + 5 => exact ⟨Int.le_refl 0, by show (0 : Int) ≤ 255; decide⟩

theorem decode_k (w : World) (fr : Nat × Nat) : Calls Tryd.prog 9 #[.slice (some ⟨w.heap.size, 0, none⟩) 2 2, .int .i64 0] (w.alloc (.cells #[.int .u8 195, .int .u8 169] 5 fr)) fun e w' =>
    e = .returned (.tuple #[.int .i32 233, .int .i64 2, .bool true]) ∧ w' = w.alloc (.cells #[.int .u8 195, .int .u8 169] 5 fr) := by
  have h := decode_in w.heap.size 0 2 2 0 gK1 gK1_bd (w.alloc (.cells #[.int .u8 195, .int .u8 169] 5 fr)) (by decide) (by decide) (by unfold maxLen; decide) (fun j hj => by
    match j, hj with
    | 0, _ => rw [World.cell?_alloc_mark]; rfl
    | 1, _ => rw [World.cell?_alloc_mark]; rfl)
  refine h.mono ?_
  rintro e w' ⟨rfl, rfl⟩
  exact ⟨dec_ret (by decide) (by decide) (by decide), rfl⟩

theorem place_k (w : World) (b : Nat) (fr : Nat × Nat) (e : b = w.heap.size) : Calls Tryd.prog 28 #[.slice (some ⟨b, 0, none⟩) 5 5, .int .i64 4] (w.alloc (.cells #[.int .u8 97, .int .u8 10, .int .u8 195, .int .u8 169, .int .u8 98] 5 fr)) fun e w' =>
    e = .returned (.tuple #[.int .i64 2, .int .i64 2]) ∧ Below w.heap.size w w' := by
  have h := place_any b (some ⟨b, 0, none⟩) 5 5 gK2 gK2_bd 4 (w.alloc (.cells #[.int .u8 97, .int .u8 10, .int .u8 195, .int .u8 169, .int .u8 98] 5 fr)) (by decide) (.inr ⟨0, 5, rfl, by decide, by decide, by unfold maxLen; decide, fun j hj => by
    match j, hj with
    | 0, _ => rw [e, World.cell?_alloc_mark]; rfl
    | 1, _ => rw [e, World.cell?_alloc_mark]; rfl
    | 2, _ => rw [e, World.cell?_alloc_mark]; rfl
    | 3, _ => rw [e, World.cell?_alloc_mark]; rfl
    | 4, _ => rw [e, World.cell?_alloc_mark]; rfl⟩) (by simp; omega)
  refine h.mono ?_
  rintro e w' ⟨⟨ln, cl, rfl, k, h1, h2, h3, rfl, rfl⟩, hb⟩
  have hk : k = 3 := by
    have e4 : clampP 5 4 = 4 := by decide
    rw [e4] at h2 h3
    match k with
    | 0 => exact absurd h3 (by decide)
    | 1 => exact absurd h3 (by decide)
    | 2 => exact absurd h3 (by decide)
    | 3 => rfl
    | k + 4 => 
      have : posn gK2 5 4 = 5 := by decide
      by_cases e : k = 0
      · subst e; have h2' : posn gK2 5 4 ≤ 4 := h2; omega
      · have := h1 4 (by omega); omega
  subst hk
  refine ⟨?_, (((Below.refl _ w).alloc (Nat.le_refl _) _).trans (hb.mono (by simp)))⟩
  have a1 : plcL (upto (endAt gK2 5) 3) = 2 := by decide
  have a2 : plcC (upto (endAt gK2 5) 3) = 2 := by decide
  rw [a1, a2]

theorem quote_k (w : World) : Calls Tryd.prog 29 #[.string ⟨#[97, 10]⟩] w fun e w' => e = .returned (.string ⟨#[34, 97, 92, 110, 34]⟩) ∧ Below w.heap.size w w' := by
  have h := callsIn_wide.1 (quote_in ⟨#[97, 10]⟩ w (by decide) (fun x => x.2 = 97 ∨ x.2 = 10) (fun k hk => by
    have e2 : posn (gS ⟨#[97, 10]⟩) 2 2 = 2 := by decide
    have s2 : (⟨#[97, 10]⟩ : ByteArray).size = 2 := rfl
    rw [s2] at hk ⊢
    match k with
    | 0 => exact .inl (by decide)
    | 1 => exact .inr (by decide)
    | k + 2 =>
      have hmono : ∀ j, 2 ≤ posn (gS ⟨#[97, 10]⟩) 2 (j + 2) := by
        intro j
        induction j with
        | zero => exact Nat.le_of_eq e2.symm
        | succ j ih => show 2 ≤ posn (gS ⟨#[97, 10]⟩) 2 (j + 2) + _; omega
      have := hmono k; omega) quoK (fun x hx => by rcases hx with h | h <;> simp [quoK, h]) (fun x hx w => by
    obtain ⟨x1, x2⟩ := x
    rcases hx with h | h
    · have h' : x2 = 97 := h
      subst h'; exact quoted_97 w
    · have h' : x2 = 10 := h
      subst h'; exact quoted_10 w))
  refine h.mono ?_
  rintro e w' ⟨⟨m, hm, rfl⟩, hb⟩
  refine ⟨?_, hb⟩
  have s2 : (⟨#[97, 10]⟩ : ByteArray).size = 2 := rfl
  rw [s2] at hm ⊢
  have hm2 : Runes (gS ⟨#[97, 10]⟩) 2 2 := ⟨by decide, fun j hj => by
    match j, hj with
    | 0, _ => decide
    | 1, _ => decide⟩
  obtain rfl := hm.unique hm2
  have : (34 :: flat quoK (upto (endAt (gS ⟨#[97, 10]⟩) 2) 2) ++ [34]) = [34, 97, 92, 110, 34] := by decide
  rw [this]

/-- A row of bytes converted to its own type: the run-time's mark lies behind its last cell. -/
theorem conv_mark (w : World) (C : Array Value) (n c : Nat) : (convert 22 22 (.slice (some ⟨w.heap.size, 0, none⟩) n c)).run Tryd.prog (w.alloc (.cells C 5)) = .ok (.slice (some ⟨w.heap.size, 0, none⟩) n c) (w.alloc (.cells C 5 (C.size, C.size + 1))) := by
  have hsh : (w.alloc (.cells C 5)).shape? w.heap.size = some (5, C.size) := by
    have : (w.alloc (.cells C 5)).heap[w.heap.size]? = some (.cells C 5) := World.alloc_heap_new w _
    unfold World.shape?
    rw [this]
  have hfr : (w.alloc (.cells C 5)).freeze ⟨w.heap.size, C.size, none⟩ 1 = w.alloc (.cells C 5 (C.size, C.size + 1)) := by
    have hm : ∀ (a : Array Obj) (x : Obj) (f : Obj → Obj), (a.push x).modify a.size f = a.push (f x) := by
      intro a x f
      apply Array.ext
      · simp
      · intro i h1 h2
        simp only [Array.getElem_modify, Array.getElem_push]
        by_cases h : a.size = i
        · subst h
          simp
        · have hi : i < a.size := by simp at h1; omega
          simp [h, hi]
    unfold World.freeze
    rw [if_neg (by decide)]
    show ({ w.alloc (.cells C 5) with heap := (w.heap.push (.cells C 5)).modify w.heap.size _ } : World) = _
    rw [hm]
    rfl
  simp [convert, run_underlying Tryd.underlying22, run_underlying Tryd.underlying5, markStringish, hsh]
  exact hfr

set_option maxRecDepth 100000 in
set_option maxHeartbeats 1000000 in
theorem known_any (w : World) : Calls Tryd.prog 11 #[] w fun e w' => e = .returned (.bool true) ∧ Below w.heap.size w w' := by
  have hc1 := conv_mark w #[.int .u8 195, .int .u8 169] 2 2
  have hc2 := conv_mark (w.alloc (.cells #[.int .u8 195, .int .u8 169] 5 (2, 3))) #[.int .u8 97, .int .u8 10, .int .u8 195, .int .u8 169, .int .u8 98] 5 5
  rw [World.size_alloc] at hc2
  go_enter Tryd.func11, Tryd.ntmps11
  go_wp2_with (first | (go_at_call 9; refine (decode_k w _).mono ?_; rintro e w' ⟨rfl, rfl⟩) | (go_at_call 28; refine (place_k _ _ _ (by simp)).mono ?_; rintro e w2 ⟨rfl, hb⟩) | (go_at_call 29; refine (quote_k _).mono ?_; rintro e w3 ⟨rfl, hb3⟩))
  go_ret
  have h2 : Below w.heap.size w w2 := ((Below.refl _ w).alloc (Nat.le_refl _) _).trans (hb.mono (by simp))
  exact ⟨rfl, h2.trans (hb3.mono h2.size)⟩
end Go.Proofs.YtponficlejjafabDoor

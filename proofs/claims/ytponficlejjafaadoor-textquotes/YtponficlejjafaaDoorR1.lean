/- slices.Clone at a row of bytes, and text.Runes: a copy in a box, and the function value over it. -/
import Derived.Test.YtponficlejjafaaDoorE1
import Derived.Test.YtponficlejjafaaDoorF2
namespace Go.Proofs.YtponficlejjafaaDoor
set_option linter.unusedSimpArgs false
set_option linter.unusedVariables false
open Go.RowKit Go.Shelf

/-- What Clone answers: a row of the same bytes, in a block of its own. -/
def Cloned (w : World) (len : Nat) (g : Nat → Int) (e : Ending) (w' : World) : Prop :=
  ∃ c a' cap', e = .returned (.slice a' len cap') ∧ Sl w' c (.slice a' len cap') len g ∧ w.heap.size ≤ c ∧ c < w'.heap.size ∧ Below w.heap.size w w'

set_option maxHeartbeats 2000000 in
set_option maxRecDepth 100000 in
theorem clone_some (ad : Addr) (len cap : Nat) (g : Nat → Int) (w : World) (hlen : len ≤ 4294967296) (hsrc : ∀ j, j < len → w.cell? (ad.add j) = some (.int .u8 (g j))) :
    Calls Tryd.prog 32 #[.slice (some ad) len cap] w (Cloned w len g) := by
  obtain ⟨i0, hi, hz0, hz1, hz2⟩ := info_parts infoByte
  have h0 := empty_owns w
  have hnl : (binOp .eql 22 (.slice (some ad) len cap) (.slice none 0 0)).run Tryd.prog w = .ok (.bool false) w := Lib.run_eql_slice_nil w 22 5 (some ad) len cap 0 0 Tryd.underlying22
  go_enter Tryd.func32, Tryd.ntmps32
  go_wp2_with (at_builtin; refine wpList_append_own _ rfl _ _ 22 rfl w.heap.size 5 i0 (.int .u8 0) 1 1 Tryd.underlying22 hi hz0 hz1 hz2 rfl (by decide) _ _ _ rfl h0 ad len cap (bcells g len) rfl ?c1 ?c2 ?c3 ?c4 ?c5 ?c6 ?_)
  case c1 => simp [bcells_length]
  case c2 =>
    intro j u hj
    have hj' : j < len := by have := (List.getElem?_eq_some_iff.1 hj).1; rw [bcells_length] at this; exact this
    rw [bcells_get hj'] at hj
    cases hj
    rw [World.cell?_alloc_lt _ _ _ (World.block_lt_of_cell? w _ (hsrc j hj'))]
    exact hsrc j hj'
  case c3 => intro u hu; obtain ⟨j, _, rfl⟩ := List.mem_map.1 hu; rfl
  case c4 => unfold maxLen; omega
  case c5 => omega
  case c6 => simp
  intro v1 w1 hown1 hg1 hne
  have hs1 : w.heap.size + 1 ≤ w1.heap.size := by have := hg1.size; simp at this; omega
  have hB1 : Below w.heap.size w w1 := ((Below.refl _ w).alloc (Nat.le_refl _) _).grown hg1 (by simp) (fun k e => by simp [Value.ownBlock] at e; omega)
  clear hnl h0
  rcases hown1.2 with ⟨hv, _⟩ | ⟨g1, cap1, cur, rfl, hgb, hgh, hc1, hc2, _, _⟩
  · simp [hv] at hne
  · have hcc := hide (hown1.cells (g := g1) rfl)
    clear hown1 hg1 hne
    go_wp2
    go_ret
    have hlt : g1 < w1.heap.size := (Array.getElem?_eq_some_iff.1 hgh).1
    refine ⟨g1, some ⟨g1, 0, none⟩, cap1, by simp, ?_, hgb, hlt, hB1⟩
    by_cases hz : len = 0
    · exact .inl ⟨_, cap1, by rw [hz], hz⟩
    · refine .inr ⟨0, cap1, rfl, by omega, by simpa using hc1, hc2, fun j hj => ?_⟩
      have := unhide hcc j _ (bcells_get hj)
      rw [Addr.add_lit] at this
      exact this

set_option maxHeartbeats 1000000 in
theorem clone_none (g : Nat → Int) (w : World) (hp : 0 < w.heap.size) : Calls Tryd.prog 32 #[.slice none 0 0] w fun e w' => e = .returned (.slice none 0 0) ∧ w' = w := by
  have hnl : (binOp .eql 22 (.slice none 0 0) (.slice none 0 0)).run Tryd.prog w = .ok (.bool true) w := Lib.run_eql_slice_nil w 22 5 none 0 0 0 0 Tryd.underlying22
  go_enter Tryd.func32, Tryd.ntmps32
  go_wp2
  go_ret
  exact ⟨rfl, rfl⟩

/-- text.Runes: the copy lies in the box Bk; the row's block c is beyond what was there, and not the box. -/
def RunesMade (w : World) (len : Nat) (g : Nat → Int) (e : Ending) (w' : World) : Prop :=
  ∃ Bk c sv, e = .returned (.func (.func 33) #[] #[.pointer (some ⟨Bk, 0, none⟩)]) ∧ Boxed w' Bk 22 sv ∧ Sl w' c sv len g ∧ w.heap.size ≤ Bk ∧ c < w'.heap.size ∧ (len = 0 ∨ w.heap.size ≤ c) ∧ Below w.heap.size w w'

set_option maxHeartbeats 1000000 in
theorem runes_some (ad : Addr) (len cap : Nat) (g : Nat → Int) (w : World) (hlen : len ≤ 4294967296) (hsrc : ∀ j, j < len → w.cell? (ad.add j) = some (.int .u8 (g j))) :
    Calls Tryd.prog 15 #[.slice (some ad) len cap] w (RunesMade w len g) := by
  have H := hide (clone_some ad len cap g w hlen hsrc)
  clear hsrc
  go_enter Tryd.func15, Tryd.ntmps15
  go_wp2_with (go_at_call 32; refine (unhide H).mono ?_; rintro e w1 ⟨c, a', cap', rfl, hS, hc1, hc2, hB⟩; have HS := hide hS; clear hS)
  go_ret
  refine ⟨w1.heap.size, c, .slice a' len cap', rfl, Boxed.new w1 22 _, (unhide HS).keep (fun k e => by subst e; exact Below.heap_alloc w1 _ k hc2), hB.size, by simp; omega, .inr hc1, hB.alloc hB.size _⟩

set_option maxHeartbeats 1000000 in
theorem runes_none (g : Nat → Int) (w : World) (hp : 0 < w.heap.size) : Calls Tryd.prog 15 #[.slice none 0 0] w (RunesMade w 0 g) := by
  go_enter Tryd.func15, Tryd.ntmps15
  go_wp2_with (go_at_call 32; refine (clone_none g w hp).mono ?_; rintro e w1 ⟨rfl, rfl⟩)
  go_ret
  refine ⟨_, 0, .slice none 0 0, rfl, Boxed.new _ 22 _, .inl ⟨_, _, rfl, rfl⟩, Nat.le_refl _, by simp, .inl rfl, (Below.refl _ _).alloc (Nat.le_refl _) _⟩

theorem runes_any {sv : Value} {len : Nat} {g : Nat → Int} {w : World} (hlen : len ≤ 4294967296) (h : Src w sv len g) (hp : 0 < w.heap.size) : Calls Tryd.prog 15 #[sv] w (RunesMade w len g) := by
  rcases h with ⟨rfl, rfl⟩ | ⟨ad, cap, rfl, hc⟩
  · exact runes_none g w hp
  · exact runes_some ad len cap g w hlen hc
end Go.Proofs.YtponficlejjafaaDoor

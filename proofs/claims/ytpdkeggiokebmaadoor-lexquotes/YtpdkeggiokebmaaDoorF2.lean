/- shucklaw1.roomy lays the bytes anew, with two marks behind them; shucklaw1.stands finds them so. -/
import Derived.Laws.AppendOwnNone
import Derived.RangeFuncBox
import Derived.Test.YtpdkeggiokebmaaDoorC1
import Derived.Test.YtpdkeggiokebmaaDoorF1
namespace Go.Proofs.YtpdkeggiokebmaaDoor
set_option linter.unusedSimpArgs false
set_option linter.unusedVariables false
open Go.RowKit

/-- The cells of so many bytes. -/
def bcells (g : Nat → Int) (len : Nat) : List Value := upto (fun j => Value.int .u8 (g j)) len
theorem bcells_length (g : Nat → Int) (len : Nat) : (bcells g len).length = len := upto_length _ _
theorem bcells_get {g : Nat → Int} {len j : Nat} (h : j < len) : (bcells g len)[j]? = some (.int .u8 (g j)) := by simp [bcells, upto, h]
/-- What is read of a row of bytes when it is copied. -/
def Src (w : World) (sv : Value) (len : Nat) (g : Nat → Int) : Prop :=
  (sv = .slice none 0 0 ∧ len = 0) ∨ ∃ ad cap, sv = .slice (some ad) len cap ∧ ∀ j, j < len → w.cell? (ad.add j) = some (.int .u8 (g j))

theorem row_get {g : Nat → Int} {len j : Nat} (h : j < len) : (bcells g len ++ [.int .u8 171, .int .u8 171])[j]? = some (.int .u8 (g j)) := by
  rw [List.getElem?_append_left (by rw [bcells_length]; exact h)]
  exact bcells_get h
theorem row_mark (g : Nat → Int) (len : Nat) : (bcells g len ++ [.int .u8 171, .int .u8 171])[len]? = some (.int .u8 171) := by
  rw [List.getElem?_append_right (by rw [bcells_length]; exact Nat.le_refl _), bcells_length, Nat.sub_self]
  rfl
theorem addr_at (b j : Nat) : (⟨b, 0, none⟩ : Addr).add j = ⟨b, j, none⟩ := by simp only [Addr.add_lit, Nat.zero_add]

/-- The three appends of roomy behind the first one. -/
theorem empty_owns (w : World) : (w.alloc (.cells #[] 5)).ownsRow w.heap.size 5 1 (.slice (some ⟨w.heap.size, 0, none⟩) 0 0) 0 [] :=
  ⟨rfl, .inr ⟨w.heap.size, 0, #[], rfl, Nat.le_refl _, World.alloc_heap_new w _, Nat.le_refl _, Nat.zero_le _, rfl, rfl⟩⟩

set_option maxHeartbeats 2000000 in
set_option maxRecDepth 100000 in
theorem roomy_some (ad : Addr) (len cap : Nat) (g : Nat → Int) (w : World) (hlen : len ≤ 4294967296) (hsrc : ∀ j, j < len → w.cell? (ad.add j) = some (.int .u8 (g j))) :
    Calls Tryd.prog 9 #[.slice (some ad) len cap] w fun e w' => ∃ gb c', e = .returned (.slice (some ⟨gb, 0, none⟩) (len + 1) c') ∧ w.heap.size ≤ gb ∧ len + 1 ≤ c' ∧ c' ≤ maxLen ∧ (∀ j, j < len → w'.cell? ⟨gb, j, none⟩ = some (.int .u8 (g j))) ∧ w'.cell? ⟨gb, len, none⟩ = some (.int .u8 171) ∧ Below w.heap.size w w' := by
  obtain ⟨i0, hi, hz0, hz1, hz2⟩ := info_parts infoByte
  have h0 := empty_owns w
  go_enter Tryd.func9, Tryd.ntmps9
  go_wp2_with (at_builtin; refine wpList_append_own _ rfl _ _ 22 rfl w.heap.size 5 i0 (.int .u8 0) 1 1 Tryd.underlying22 hi hz0 hz1 hz2 rfl (by decide) _ _ _ rfl h0 ad len cap (bcells g len) rfl ?c1 ?c2 ?c3 ?c4 ?c5 ?c6 ?_)
  case c1 => simp [bcells_length]
  case c2 =>
    intro j u hj
    have hj' : j < len := by have := (List.getElem?_eq_some_iff.1 hj).1; rw [bcells_length] at this; exact this
    rw [bcells_get hj'] at hj
    cases hj
    rw [World.cell?_alloc_lt _ _ _ (World.block_lt_of_cell? w _ (hsrc j hj'))]
    exact hsrc j hj'
  case c3 => intro u hu; obtain ⟨j, _, rfl⟩ := List.mem_map.1 hu; rfl
  case c4 => unfold maxLen; omega
  case c5 => omega
  case c6 => simp
  intro v1 w1 hown1 hg1 _
  have hs1 : w.heap.size + 1 ≤ w1.heap.size := by have := hg1.size; simp at this; omega
  have hB1 : Below w.heap.size w w1 := ((Below.refl _ w).alloc (Nat.le_refl _) _).grown hg1 (by simp) (fun k e => by simp [Value.ownBlock] at e; omega)
  go_wp2_with (at_builtin; refine wpList_append_own _ rfl _ _ 22 rfl w.heap.size 5 i0 (.int .u8 0) 1 1 Tryd.underlying22 hi hz0 hz1 hz2 rfl (by decide) _ _ _ rfl (hown1.alloc _) ⟨w1.heap.size, 0, none⟩ 1 1 [.int .u8 171] rfl rfl ?c2 ?c3 ?c4 ?c5 ?c6 ?_)
  case c2 =>
    intro j u hj
    match j, hj with
    | 0, hj => simp at hj; subst hj; simp [Addr.add]
  case c3 => intro u hu; simp at hu; subst hu; rfl
  case c4 => unfold maxLen; omega
  case c5 => omega
  case c6 => simp; omega
  intro v2 w2 hown2 hg2 _
  have hs2 : w1.heap.size + 1 ≤ w2.heap.size := by have := hg2.size; simp at this; omega
  have hB2 : Below w.heap.size w w2 := (hB1.alloc (by omega) _).grown hg2 (by simp; omega) (fun k hk => (hown1.lt k hk).1)
  go_wp2_with (at_builtin; refine wpList_append_own _ rfl _ _ 22 rfl w.heap.size 5 i0 (.int .u8 0) 1 1 Tryd.underlying22 hi hz0 hz1 hz2 rfl (by decide) _ _ _ rfl (hown2.alloc _) ⟨w2.heap.size, 0, none⟩ 1 1 [.int .u8 171] rfl rfl ?c2 ?c3 ?c4 ?c5 ?c6 ?_)
  case c2 =>
    intro j u hj
    match j, hj with
    | 0, hj => simp at hj; subst hj; simp [Addr.add]
  case c3 => intro u hu; simp at hu; subst hu; rfl
  case c4 => unfold maxLen; omega
  case c5 => omega
  case c6 => simp; omega
  intro v3 w3 hown3 hg3 _
  have hB3 : Below w.heap.size w w3 := (hB2.alloc (by omega) _).grown hg3 (by simp; omega) (fun k hk => (hown2.lt k hk).1)
  obtain ⟨g3, c3, rfl⟩ := ownsRow_succ hown3
  have hcc := hown3.cells (g := g3) rfl
  have hgb : w.heap.size ≤ g3 := (hown3.lt g3 rfl).1
  have hcap : len + 1 + 1 ≤ c3 ∧ c3 ≤ maxLen := by
    rcases hown3.2 with ⟨h, _⟩ | ⟨g', cap', cur, hv, _, _, h1, h2, _⟩
    · cases h
    · cases hv; exact ⟨h1, h2⟩
  obtain ⟨hcap1, hcap2⟩ := hcap
  have HM := hide hcap2
  have hcap3 := hcap2
  unfold maxLen at hcap3
  clear hcap2
  have HC := hide hcc
  clear hcc hown1 hown2 hg1 hg2 hg3 hown3 h0
  go_wp2
  go_ret
  refine ⟨g3, c3, rfl, hgb, by omega, unhide HM, fun j hj => ?_, ?_, hB3⟩
  · have := unhide HC j _ (row_get hj)
    rw [addr_at] at this
    exact this
  · have := unhide HC len _ (row_mark g len)
    rw [addr_at] at this
    exact this

set_option maxHeartbeats 2000000 in
set_option maxRecDepth 100000 in
theorem roomy_none (w : World) :
    Calls Tryd.prog 9 #[.slice none 0 0] w fun e w' => ∃ gb c', e = .returned (.slice (some ⟨gb, 0, none⟩) (0 + 1) c') ∧ w.heap.size ≤ gb ∧ 0 + 1 ≤ c' ∧ c' ≤ maxLen ∧ w'.cell? ⟨gb, 0, none⟩ = some (.int .u8 171) ∧ Below w.heap.size w w' := by
  obtain ⟨i0, hi, hz0, hz1, hz2⟩ := info_parts infoByte
  have h0 := empty_owns w
  go_enter Tryd.func9, Tryd.ntmps9
  go_wp2_with (first | (at_builtin; refine wpList_append_own_none rfl _ _ 22 rfl w.heap.size 5 i0 1 Tryd.underlying22 hi _ _ _ rfl h0 rfl ?_) | (at_builtin; refine wpList_append_own _ rfl _ _ 22 rfl w.heap.size 5 i0 (.int .u8 0) 1 1 Tryd.underlying22 hi hz0 hz1 hz2 rfl (by decide) _ _ _ rfl (h0.alloc _) ⟨w.heap.size + 1, 0, none⟩ 1 1 [.int .u8 171] rfl rfl ?c2 ?c3 ?c4 ?c5 ?c6 ?_))
  case c2 =>
    intro j u hj
    match j, hj with
    | 0, hj => simp at hj; subst hj; simp [Addr.add]
  case c3 => intro u hu; simp at hu; subst hu; rfl
  case c4 => unfold maxLen; omega
  case c5 => omega
  case c6 => simp; omega
  intro v2 w2 hown2 hg2 _
  have hs2 : w.heap.size + 1 + 1 ≤ w2.heap.size := by have := hg2.size; simp at this; omega
  have hB2 : Below w.heap.size w w2 := (((Below.refl _ w).alloc (Nat.le_refl _) _).alloc (by simp) _).grown hg2 (by simp; omega) (fun k e => by simp [Value.ownBlock] at e; omega)
  go_wp2_with (at_builtin; refine wpList_append_own _ rfl _ _ 22 rfl w.heap.size 5 i0 (.int .u8 0) 1 1 Tryd.underlying22 hi hz0 hz1 hz2 rfl (by decide) _ _ _ rfl (hown2.alloc _) ⟨w2.heap.size, 0, none⟩ 1 1 [.int .u8 171] rfl rfl ?c2 ?c3 ?c4 ?c5 ?c6 ?_)
  case c2 =>
    intro j u hj
    match j, hj with
    | 0, hj => simp at hj; subst hj; simp [Addr.add]
  case c3 => intro u hu; simp at hu; subst hu; rfl
  case c4 => unfold maxLen; omega
  case c5 => omega
  case c6 => simp; omega
  intro v3 w3 hown3 hg3 _
  have hB3 : Below w.heap.size w w3 := (hB2.alloc (by omega) _).grown hg3 (by simp; omega) (fun k hk => (hown2.lt k hk).1)
  obtain ⟨g3, c3, rfl⟩ := ownsRow_succ hown3
  have hcc := hown3.cells (g := g3) rfl
  have hgb : w.heap.size ≤ g3 := (hown3.lt g3 rfl).1
  have hcap : 0 + 1 + 1 ≤ c3 ∧ c3 ≤ maxLen := by
    rcases hown3.2 with ⟨h, _⟩ | ⟨g', cap', cur, hv, _, _, h1, h2, _⟩
    · cases h
    · cases hv; exact ⟨h1, h2⟩
  obtain ⟨hcap1, hcap2⟩ := hcap
  have HM := hide hcap2
  have hcap3 := hcap2
  unfold maxLen at hcap3
  clear hcap2
  have HC := hide hcc
  clear hcc hown2 hg2 hg3 hown3 h0
  go_wp2
  go_ret
  refine ⟨g3, c3, rfl, hgb, by omega, unhide HM, ?_, hB3⟩
  have := unhide HC 0 _ (row_mark (fun _ => 0) 0)
  rw [addr_at] at this
  exact this

/-- roomy at any row of bytes. -/
theorem roomy_any {sv : Value} {len : Nat} {g : Nat → Int} {w : World} (hlen : len ≤ 4294967296) (h : Src w sv len g) :
    Calls Tryd.prog 9 #[sv] w fun e w' => ∃ gb c', e = .returned (.slice (some ⟨gb, 0, none⟩) (len + 1) c') ∧ w.heap.size ≤ gb ∧ len + 1 ≤ c' ∧ c' ≤ maxLen ∧ (∀ j, j < len → w'.cell? ⟨gb, j, none⟩ = some (.int .u8 (g j))) ∧ w'.cell? ⟨gb, len, none⟩ = some (.int .u8 171) ∧ Below w.heap.size w w' := by
  rcases h with ⟨rfl, rfl⟩ | ⟨ad, cap, rfl, hc⟩
  · refine (roomy_none w).mono ?_
    rintro e w' ⟨gb, c', h1, h2, h3, h4, h5, h6⟩
    exact ⟨gb, c', h1, h2, h3, h4, fun j hj => by omega, h5, h6⟩
  · exact roomy_some ad len cap g w hlen hc
end Go.Proofs.YtpdkeggiokebmaaDoor

/- shucklaw3.lent in general. -/
import Derived.LoopN
import Derived.WalkSmall
import Derived.Deep.RegionHeld3
import Derived.Deep.AppendLies
import Derived.Deep.DrawnRows
import Derived.Test.YtoffpbaddehncaaGreatDoorTY
namespace Go.Proofs.YtoffpbaddehncaaGreatDoor
set_option linter.unusedSimpArgs false
set_option linter.unusedVariables false
open Go.RowKit Go.Shelf
attribute [local go_sem ↓] Go.wp_at_zero Go.wp_at_succ

/-- The marks behind: the row is cut again. -/
theorem LJ.done {W1 wr w4 : World} {B g cap3 n g4 cap4 : Nat} {os es : List NE} {o : Obj} {last : List Value} {p : Addr} (h : LJ W1 B (.slice (some ⟨g, 0, none⟩) n cap3) os n wr es) (hn : os.length = n) (hgr : (wr.alloc o).drew.grownBy w4 (some g))
    (hown4 : w4.ownsRow B 29 5 (.slice (some ⟨g4, 0, none⟩) (n + 1) cap4) (n + 1) (flatN es ++ last)) (hp : p.block < B) (u : Value) : OwnN (w4.setCell p u) B (.slice (some ⟨g4, 0, none⟩) n cap4) es := by
  obtain ⟨hmap, hown, hnew, hold, hB⟩ := h
  have hel : es.length = n := by have := congrArg List.length hmap; simpa [hn] using this
  have h1 := ownsRow_pop (n := n) (by rw [flatN_len, hel]) hown4
  have hg4 : B ≤ g4 := (h1.lt g4 rfl).1
  refine ⟨?_, fun e he => ?_⟩
  · rw [hel]
    refine ownsRow_heap h1 fun k hk => ?_
    have : k = g4 := by simpa [Value.ownBlock] using hk.symm
    subst this
    exact Below.heap_setCell _ _ _ _ (by omega)
  · obtain ⟨j, hj⟩ := List.getElem?_of_mem he
    have hjl := (List.getElem?_eq_some_iff.1 hj).1
    obtain ⟨k1, k2, k3⟩ := hnew j e (by omega) hj
    refine ⟨k1, k2, ?_⟩
    rcases k3 with k3 | ⟨kb, cur, ha, hkb, hh, hc⟩
    · exact .inl k3
    · refine .inr ⟨kb, cur, ha, hkb, ?_, hc⟩
      have hkl := (Array.getElem?_eq_some_iff.1 hh).1
      have hne : kb ≠ g := by
        rintro rfl
        rcases hown.2 with ⟨h0, _⟩ | ⟨g', cap', cur', h0, _, hh', _⟩
        · cases h0
        · injection h0 with h1 _ _
          injection h1 with h1
          injection h1 with h1 _ _
          subst h1
          rw [hh] at hh'
          cases hh'
      rw [Below.heap_setCell _ _ _ _ (by omega)]
      refine (hgr.block kb (by show kb < (wr.alloc o).heap.size; simp; omega) (by simpa using hne)).trans ?_
      exact (Below.heap_alloc wr o kb hkl).trans hh

/-- What lent answers. -/
def LentQ (l : List Nd) (W : World) (e : Ending) (w' : World) : Prop := ∃ g cap es, e = .returned (.agg #[.slice (some ⟨g, 0, none⟩) l.length cap]) ∧ es.map NE.x = l ∧ OwnN w' (W.heap.size + 1 + 1) (.slice (some ⟨g, 0, none⟩) l.length cap) es ∧ Below W.heap.size W w'
set_option maxRecDepth 100000 in
set_option maxHeartbeats 4000000 in
theorem lent_nil (W : World) (a : Option Addr) (cap : Nat) : Calls Tryz.prog 10 #[.agg #[.slice a 0 cap]] W (LentQ [] W) := by
  obtain ⟨i0, hi, hz0, hz1, hz2⟩ := info_parts infoNode
  obtain ⟨W1, hW1⟩ : ∃ W1, (W.alloc (.cells #[.slice a 0 cap] 24)).alloc (.cells #[.slice none 0 0] 24) = W1 := ⟨_, rfl⟩
  have hB1 : Below W.heap.size W W1 := by rw [← hW1]; exact ((Below.refl _ W).alloc (Nat.le_refl _) _).alloc (by simp) _
  have hz1' : W1.heap.size = W.heap.size + 1 + 1 := by rw [← hW1]; simp
  have hbx : W1.cell? ⟨W.heap.size, 0, none⟩ = some (.slice a 0 cap) := by
    rw [← hW1, Lib.cell_of_heap (at_a2 W _ _)]; rfl
  have hbr : W1.cell? ⟨W.heap.size + 1, 0, none⟩ = some (.slice none 0 0) := by
    rw [← hW1, Lib.cell_of_heap (at_a3 W _ _)]; rfl
  have hbf : W1.frozen? ⟨W.heap.size + 1, 0, none⟩ = false := by rw [← hW1]; exact frozen_at (at_a3 W _ _) 0
  obtain ⟨wr, hwr⟩ : ∃ wr, W1.alloc (.cells #[] 29) = wr := ⟨_, rfl⟩
  have hBr : Below (W.heap.size + 1 + 1) W1 wr := by rw [← hwr]; exact (Below.refl _ W1).alloc (by omega) _
  have hzr : wr.heap.size = W.heap.size + 1 + 1 + 1 := by rw [← hwr]; simp; omega
  have hown : wr.ownsRow (W.heap.size + 1 + 1) 29 5 (.slice (some ⟨W.heap.size + 1 + 1, 0, none⟩) 0 0) 0 (flatN []) := own_empty (by rw [← hwr, ← hz1']; exact World.alloc_heap_new W1 _) (Nat.le_refl _)
  have HLJ : Hid (LJ W1 (W.heap.size + 1 + 1) (.slice (some ⟨W.heap.size + 1 + 1, 0, none⟩) 0 0) [] 0 wr []) := ⟨rfl, hown, fun j e h => by omega, fun _ _ => rfl, hBr⟩
  have hs1 : W.heap.size < wr.heap.size := by omega
  have hs2 : W.heap.size + 1 < wr.heap.size := by omega
  have hBwr : W.heap.size + 1 + 1 ≤ wr.heap.size := by omega
  have cb1 : wr.cell? ⟨W.heap.size, 0, none⟩ = some (.slice a 0 cap) := (hBr.cell (p := ⟨W.heap.size, 0, none⟩) (by show W.heap.size < _; omega)).trans hbx
  have cb2 : wr.cell? ⟨W.heap.size + 1, 0, none⟩ = some (.slice none 0 0) := (hBr.cell (p := ⟨W.heap.size + 1, 0, none⟩) (by show W.heap.size + 1 < _; omega)).trans hbr
  have fb2 : wr.frozen? ⟨W.heap.size + 1, 0, none⟩ = false := frozen_below hBr (by show W.heap.size + 1 < _; omega) hbf
  have hsk : ∀ w', Below (W.heap.size + 1 + 1) wr w' → w'.cell? ⟨W.heap.size, 0, none⟩ = some (.slice a 0 cap) := fun w' h => (h.cell (p := ⟨W.heap.size, 0, none⟩) (by show W.heap.size < _; omega)).trans cb1
  have hsf : ∀ w', Below (W.heap.size + 1 + 1) wr w' → w'.cell? ⟨W.heap.size + 1, 0, none⟩ = some (.slice none 0 0) ∧ w'.frozen? ⟨W.heap.size + 1, 0, none⟩ = false := fun w' h => ⟨(h.cell (p := ⟨W.heap.size + 1, 0, none⟩) (by show W.heap.size + 1 < _; omega)).trans cb2, frozen_below h (by show W.heap.size + 1 < _; omega) fb2⟩
  have HSK := hide hsk
  have HSF := hide hsf
  clear hsk hsf
  have HOW := hide hown
  have HW1 := hide hW1
  have HWR := hide hwr
  clear hown hW1 hwr hzr
  go_enter Tryz.func10, Tryz.ntmps10
  cases a with
  | none =>
    go_wp2
    rw [unhide HW1, unhide HWR]
    go_loopw [4] (fun t w' => t = .int .i64 0 ∧ w' = wr) (fun _ _ => 0)
    case atStart => exact ⟨rfl, rfl⟩
    case round =>
      obtain ⟨rfl, rfl⟩ := hrel
      go_wp2
      go_region_held3 (fun w' => w'.cell? ⟨W.heap.size, 0, none⟩ = some (.slice none 0 cap))
        (first
          | assumption
          | exact unhide HSK _ (Below.refl _ _)
          | exact unhide HSK _ (Below.refl _ _).drew
          | exact unhide HSK _ ((Below.refl _ _).alloc hBwr _)
          | exact unhide HSK _ ((Below.refl _ _).alloc hBwr _).drew
          | exact unhide HSK _ hb4
          | go_keep)
        ((refine step_append_lies _ (by rfl) _ _ _ (by rfl) (W.heap.size + 1 + 1) 29 i0 _ 5 64 Tryz.underlying22 hi hz0 hz1 hz2 rfl (by omega) _ 0 (flatN []) (by rfl) (((unhide HOW).alloc _).drew) ⟨_, 0, none⟩ 1 1 (cellN ⟨⟨171, ⟨#[]⟩, 0, [], 0⟩, none, 0⟩) (by rfl) (by rfl) (World.news_of_block (cs := #[.int .i64 171, .string ⟨#[]⟩, .int .i64 0, .slice none 0 0, .int .i64 0]) (t := 29) (fr := (0, 0)) (at_d (at_a1 _ _))) (by intro u hu; simp [cellN] at hu; rcases hu with rfl | rfl | rfl | rfl | rfl <;> rfl) (by omega) (by unfold maxLen; omega) (by omega) (by simp; omega) _ rfl ?_; intro g4 cap4 w4 hown4 hgrow4 hat4 hlt4; have hcp4 := (own_cap hown4).1; have hcp4' : (0 : Int) ≤ (cap4 : Int) := (by omega); have hb4 : Below (W.heap.size + 1 + 1) _ w4 := ((Below.refl _ _).alloc hBwr _).drew.grown hgrow4 (by simp; omega) (fun k hk => by simp [Value.ownBlock] at hk; omega); have hcw4 := (unhide HSF w4 hb4).1; have hfw4 := (unhide HSF w4 hb4).2; have hsz4 : W.heap.size + 1 < w4.heap.size := (by have := hb4.size; omega)))
      go_wp2
      refine bodyPost_ret (v := .agg #[.slice (some ⟨g4, 0, none⟩) 0 cap4]) (by simp [results, Tryz.results10, go_sem, hcw4]) rfl ⟨g4, cap4, [], rfl, rfl, (unhide HLJ).done rfl hgrow4 hown4 (by show W.heap.size + 1 < _; omega) _, ?_⟩
      have hw4 : Below W.heap.size W w4 := hB1.trans ((hBr.mono (by omega)).trans (hb4.mono (by omega)))
      exact hw4.setCell (by show W.heap.size ≤ W.heap.size + 1; omega) _
  | some ad =>
    go_wp2
    rw [unhide HW1, unhide HWR]
    go_loopw [4] (fun t w' => t = .int .i64 0 ∧ w' = wr) (fun _ _ => 0)
    case atStart => exact ⟨rfl, rfl⟩
    case round =>
      obtain ⟨rfl, rfl⟩ := hrel
      go_wp2
      go_region_held3 (fun w' => w'.cell? ⟨W.heap.size, 0, none⟩ = some (.slice (some ad) 0 cap))
        (first
          | assumption
          | exact unhide HSK _ (Below.refl _ _)
          | exact unhide HSK _ (Below.refl _ _).drew
          | exact unhide HSK _ ((Below.refl _ _).alloc hBwr _)
          | exact unhide HSK _ ((Below.refl _ _).alloc hBwr _).drew
          | exact unhide HSK _ hb4
          | go_keep)
        ((refine step_append_lies _ (by rfl) _ _ _ (by rfl) (W.heap.size + 1 + 1) 29 i0 _ 5 64 Tryz.underlying22 hi hz0 hz1 hz2 rfl (by omega) _ 0 (flatN []) (by rfl) (((unhide HOW).alloc _).drew) ⟨_, 0, none⟩ 1 1 (cellN ⟨⟨171, ⟨#[]⟩, 0, [], 0⟩, none, 0⟩) (by rfl) (by rfl) (World.news_of_block (cs := #[.int .i64 171, .string ⟨#[]⟩, .int .i64 0, .slice none 0 0, .int .i64 0]) (t := 29) (fr := (0, 0)) (at_d (at_a1 _ _))) (by intro u hu; simp [cellN] at hu; rcases hu with rfl | rfl | rfl | rfl | rfl <;> rfl) (by omega) (by unfold maxLen; omega) (by omega) (by simp; omega) _ rfl ?_; intro g4 cap4 w4 hown4 hgrow4 hat4 hlt4; have hcp4 := (own_cap hown4).1; have hcp4' : (0 : Int) ≤ (cap4 : Int) := (by omega); have hb4 : Below (W.heap.size + 1 + 1) _ w4 := ((Below.refl _ _).alloc hBwr _).drew.grown hgrow4 (by simp; omega) (fun k hk => by simp [Value.ownBlock] at hk; omega); have hcw4 := (unhide HSF w4 hb4).1; have hfw4 := (unhide HSF w4 hb4).2; have hsz4 : W.heap.size + 1 < w4.heap.size := (by have := hb4.size; omega)))
      go_wp2
      refine bodyPost_ret (v := .agg #[.slice (some ⟨g4, 0, none⟩) 0 cap4]) (by simp [results, Tryz.results10, go_sem, hcw4]) rfl ⟨g4, cap4, [], rfl, rfl, (unhide HLJ).done rfl hgrow4 hown4 (by show W.heap.size + 1 < _; omega) _, ?_⟩
      have hw4 : Below W.heap.size W w4 := hB1.trans ((hBr.mono (by omega)).trans (hb4.mono (by omega)))
      exact hw4.setCell (by show W.heap.size ≤ W.heap.size + 1; omega) _
end Go.Proofs.YtoffpbaddehncaaGreatDoor

/- shucklaw3.known answers true, in whatever memory. -/
import Derived.Test.YtoffpbaddehncaaGreatDoorTM2
import Derived.Test.YtoffpbaddehncaaGreatDoorTP2
namespace Go.Proofs.YtoffpbaddehncaaGreatDoor
set_option linter.unusedSimpArgs false
set_option linter.unusedVariables false
open Go.RowKit Go.Shelf

theorem flatN_get (es : List NE) : ∀ (j : Nat) (e : NE), es[j]? = some e → ∀ i, i < 5 → (flatN es)[j * 5 + i]? = (cellN e)[i]? := by
  induction es with
  | nil => intro j e h; cases h
  | cons x es ih =>
    intro j e h i hi
    have hc : (cellN x).length = 5 := rfl
    have e1 : flatN (x :: es) = cellN x ++ flatN es := by simp [flatN]
    rw [e1]
    cases j with
    | zero =>
      simp only [List.getElem?_cons_zero, Option.some.injEq] at h
      subst h
      rw [List.getElem?_append_left (by omega)]; simp
    | succ j =>
      rw [List.getElem?_append_right (by omega), hc, show (j + 1) * 5 + i - 5 = j * 5 + i from by omega]
      exact ih j e (by simpa using h) i hi
/-- A row of nodes of the call's own is a row of nodes. -/
theorem OwnN.nodes {W : World} {B : Nat} {v : Value} {es : List NE} (h : OwnN W B v es) (hl : es.length ≤ 2199023255552) (hb : ∀ e ∈ es, e.x.text.size ≤ 4294967280 ∧ e.x.kids.length ≤ 17592186044416) : Nodes W W.heap.size v (es.map NE.x) := by
  have hnd : ∀ j e, es[j]? = some e → nd (es.map NE.x) j = e.x := fun j e he => by simp [nd, List.getD_eq_getElem?_getD, he]
  refine ⟨by simpa using hl, fun j hj => ?_, ?_⟩
  · obtain ⟨e, he⟩ : ∃ e, es[j]? = some e := ⟨_, List.getElem?_eq_getElem (by simpa using hj)⟩
    rw [hnd j e he]
    exact hb e (List.mem_of_getElem? he)
  · rcases h.1.2 with ⟨rfl, h0⟩ | ⟨g, cap, cur, rfl, hbg, hh, hn, hm, hs, htake⟩
    · have : es = [] := List.length_eq_zero_iff.1 h0
      subst this
      exact ⟨none, 0, rfl, Nat.le_refl _, Nat.zero_le _, .inl rfl⟩
    · refine ⟨some ⟨g, 0, none⟩, cap, by simp, by simpa using hn, hm, .inr ⟨g, 0, rfl, (Array.getElem?_eq_some_iff.1 hh).1, fun j hj => ?_⟩⟩
      have hj' : j < es.length := by simpa using hj
      obtain ⟨e, he⟩ : ∃ e, es[j]? = some e := ⟨_, List.getElem?_eq_getElem hj'⟩
      rw [hnd j e he, Nat.zero_add]
      have cell : ∀ i, i < 5 → W.cell? ⟨g, j * 5 + i, none⟩ = (cellN e)[i]? := fun i hi => by
        rw [h.1.cellAt (j * 5 + i) (by omega)]
        exact flatN_get es j e he i hi
      obtain ⟨k1, k2, k3⟩ := h.2 e (List.mem_of_getElem? he)
      refine ⟨cell 0 (by omega), cell 1 (by omega), cell 2 (by omega), ⟨e.a, e.cap, cell 3 (by omega), k1, k2, ?_⟩, cell 4 (by omega)⟩
      rcases k3 with k3 | ⟨kb, cur', ha, hkb, hkh, hkc⟩
      · exact .inl k3
      · refine .inr ⟨kb, 0, ha, (Array.getElem?_eq_some_iff.1 hkh).1, fun i hi => ?_⟩
        rw [Lib.cell_of_heap hkh, Nat.zero_add]
        exact hkc i hi

/-- The known tree. -/
def ndK : Nd := ⟨17, ⟨#[120]⟩, 0, [], 0⟩
def lK : List Nd := [⟨34, ⟨#[]⟩, 0, [1], 0⟩, ndK]
theorem makeK : makeT ⟨34, ⟨#[]⟩, 0, [], 0⟩ [[ndK]] = lK := by rfl
theorem fitK0 : fitP lK 0 = true := by
  have e : tabT (nd lK 0).kind = some ⟨none, none, some 80, none, none, none, none, none⟩ := by rfl
  simp only [fitP, e, Option.isSome_some, Option.getD_some, txP, nmP, kidP, Option.isNone_none, Bool.true_or, Bool.and_true, Bool.true_and]
  have e1 : (nd lK 0).text.toList.isEmpty = true := by rw [ba_toList]; decide
  rw [e1]
  decide
theorem fitK1 : fitP lK 1 = true := by
  have e : tabT (nd lK 1).kind = some ⟨some 63, none, none, none, none, none, none, none⟩ := by rfl
  have e1 : nameB ⟨#[120]⟩ = true := by
    have : hasT wordL ⟨#[120]⟩ = false := by simp only [hasT, wordL, ba_toList]; decide
    simp only [nameB, this]
    decide
  simp only [fitP, e, Option.isSome_some, Option.getD_some, txP, nmP, kidP, Option.isNone_none, Bool.true_or, Bool.and_true, Bool.true_and]
  show (nameB ⟨#[120]⟩ && _ && _) = true
  rw [e1]
  decide
theorem chkK : chkP lK = (-1, 0) := by
  have e1 : lookP lK 1 1 = (-1, 2) := by simp only [lookP, fitK1, if_true]; decide
  have e0 : lookP lK 2 0 = (-1, 2) := by
    show (if fitP lK 0 = true then lookK (lookP lK 1) 0 (nd lK 0).kids (0 + 1) else _) = _
    rw [fitK0]
    show lookK (lookP lK 1) 0 [1] 1 = (-1, 2)
    simp only [lookK]
    rw [if_pos (by decide), e1]
    decide
  show outP lK (lookP lK 2 0) = _
  rw [e0]
  decide
theorem mdpK : mdp lK 2 = 1 := by decide

theorem own_form {W : World} {B : Nat} {v : Value} {es : List NE} (h : OwnN W B v es) (hm : es.map NE.x = lK) : ∃ g cp, v = .slice (some ⟨g, 0, none⟩) 2 cp := by
  have hl : es.length = 2 := by have := congrArg List.length hm; simpa [lK] using this
  obtain ⟨g, cp, hv, _⟩ := h.1.form (by omega)
  exact ⟨g, cp, by rw [hv, hl]⟩
theorem nodesK {W : World} {B : Nat} {v : Value} {es : List NE} (h : OwnN W B v es) (hm : es.map NE.x = lK) : Nodes W W.heap.size v lK := by
  have hl : es.length = 2 := by have := congrArg List.length hm; simpa [lK] using this
  rw [← hm]
  refine h.nodes (by omega) fun e he => ?_
  have : e.x ∈ lK := by rw [← hm]; exact List.mem_map_of_mem he
  simp only [lK, List.mem_cons, List.not_mem_nil, or_false] at this
  rcases this with h | h <;> rw [h] <;> decide

set_option maxRecDepth 100000 in
set_option maxHeartbeats 2000000 in
theorem known3_any (w : World) : Calls Tryz.prog 13 #[] w fun e w' => e = .returned (.bool true) ∧ Below w.heap.size w w' := by
  obtain ⟨W0, hW0⟩ : ∃ W0, (w.alloc (.cells #[.int .i64 17, .string ⟨#[120]⟩, .int .i64 0, .slice none 0 0, .int .i64 0] 29)).alloc (.cells #[.slice (some ⟨w.heap.size, 0, none⟩) 1 1] 24) = W0 := ⟨_, rfl⟩
  have hB0 : Below w.heap.size w W0 := by rw [← hW0]; exact ((Below.refl _ w).alloc (Nat.le_refl _) _).alloc (by simp) _
  have hz0 : W0.heap.size = w.heap.size + 1 + 1 := by rw [← hW0]; simp
  have hn0 : W0.heap[w.heap.size]? = some (.cells #[.int .i64 17, .string ⟨#[120]⟩, .int .i64 0, .slice none 0 0, .int .i64 0] 29) := by rw [← hW0]; exact (Below.heap_alloc _ _ _ (by simp)).trans (World.alloc_heap_new w _)
  have ht0 : W0.heap[w.heap.size + 1]? = some (.cells #[.slice (some ⟨w.heap.size, 0, none⟩) 1 1] 24) := by
    have := World.alloc_heap_new (w.alloc (.cells #[.int .i64 17, .string ⟨#[120]⟩, .int .i64 0, .slice none 0 0, .int .i64 0] 29)) (.cells #[.slice (some ⟨w.heap.size, 0, none⟩) 1 1] 24)
    rw [World.size_alloc] at this
    rw [← hW0]; exact this
  have hT : TreesAt W0 W0.heap.size (some ⟨w.heap.size + 1, 0, none⟩) [[ndK]] := by
    refine .inr ⟨w.heap.size + 1, 0, rfl, by omega, fun j hj => ?_⟩
    obtain rfl : j = 0 := by simpa using hj
    refine ⟨.slice (some ⟨w.heap.size, 0, none⟩) 1 1, by rw [Lib.cell_of_heap ht0]; rfl, by decide, fun j hj => ?_, some ⟨w.heap.size, 0, none⟩, 1, rfl, by decide, by decide, .inr ⟨w.heap.size, 0, rfl, by omega, fun j hj => ?_⟩⟩
    · obtain rfl : j = 0 := by simpa using hj
      decide
    · obtain rfl : j = 0 := by simpa using hj
      obtain ⟨c0, c1, c2, c3, c4⟩ := cells5 hn0
      exact ⟨c0, c1, c2, ⟨none, 0, c3, by decide, by decide, .inl rfl⟩, c4⟩
  have HM : Hid (Calls Tryz.prog 26 #[.agg #[.int .i64 34, .string ⟨#[]⟩, .int .i64 0, .slice none 0 0, .int .i64 0], .slice (some ⟨w.heap.size + 1, 0, none⟩) 1 1] W0 (MakeQ ⟨34, ⟨#[]⟩, 0, [], 0⟩ [[ndK]] W0)) := make_any ⟨34, ⟨#[]⟩, 0, [], 0⟩ (.slice none 0 0) none 0 0 [[ndK]] (some ⟨w.heap.size + 1, 0, none⟩) 1 W0.heap.size W0 rfl (Nat.le_refl _) hT (by decide) (by decide) (by decide)
  clear hT hn0 ht0
  rw [← hW0] at HM
  have HW0 := hide hW0
  clear hW0
  go_enter Tryz.func13, Tryz.ntmps13
  go_wp2_with (first | (go_at_call 26; refine (unhide HM).mono ?_; rintro e w1 ⟨v1, es, rfl, hmap, hown, hB1⟩; rw [makeK] at hmap; obtain ⟨g, cp, rfl⟩ := own_form hown hmap; have HN1 := hide (nodesK hown hmap); have HB1 := hide hB1; clear hmap hown hB1) | (go_at_call 24; refine (check_ok _ w1.heap.size _ lK ((unhide HN1).keep ((Below.refl _ w1).alloc (Nat.le_refl _) _) (Nat.le_refl _)) (by simp)).mono ?_; rw [chkK]; rintro e w3 ⟨rfl, hB3⟩; have cx : w3.cell? ⟨w1.heap.size, 0, none⟩ = some (.slice (some ⟨g, 0, none⟩) 2 cp) := (by rw [Lib.cell_of_heap ((hB3.block w1.heap.size (by simp)).trans (World.alloc_heap_new w1 _))]; rfl); have hsz3 : w1.heap.size < w3.heap.size := (by have := hB3.size; simp at this; omega)) | (go_at_call 19; refine (callsIn_wide.1 (depth_good _ w1.heap.size _ lK ((unhide HN1).keep (((Below.refl _ w1).alloc (Nat.le_refl _) _).trans (hB3.mono (by simp))) (Nat.le_refl _)) (by omega) (by rw [chkK]))).mono ?_; rw [show lK.length = 2 from rfl, mdpK]; rintro e w4 ⟨rfl, hB4⟩))
  go_ret
  refine ⟨rfl, ?_⟩
  have hB1 := unhide HB1
  rw [unhide HW0] at hB1
  have z1 := hB1.size
  have z3 := hB3.size
  simp at z3
  exact hB0.trans ((hB1.mono (by omega)).trans (((Below.refl _ w1).alloc (by omega) _).trans ((hB3.mono (by simp; omega)).trans (hB4.mono (by omega)))))
end Go.Proofs.YtoffpbaddehncaaGreatDoor

/- slices.IndexFunc and slices.DeleteFunc under left's function, which makes memory. -/
import Derived.Test.YticdaphajanbbaaGreatDoorKW
namespace Go.Proofs.YticdaphajanbbaaGreatDoor
set_option linter.unusedSimpArgs false
set_option linter.unusedVariables false
set_option maxRecDepth 100000
set_option maxHeartbeats 4000000
open Go.RowKit Go.Shelf

variable {P : Program} {lo M : Nat} {mo : Option Nat} {dv : Value} {L : List Kt} {W : World}
/-- What is kept of the first j stands first, the rest from j on. -/
def DR (w : World) (g vc : Nat) (xs : List Int) (q : Int → Bool) (j : Nat) : Prop := ∃ cur : Array Value, w.heap[g]? = some (.cells cur 3) ∧ cur.size = vc ∧ (∀ (k : Nat) (x : Int), ((xs.take j).filter fun p => !q p)[k]? = some x → cur[k]? = some (.int .i64 x)) ∧ ∀ (k : Nat) (x : Int), j ≤ k → xs[k]? = some x → cur[k]? = some (.int .i64 x)
theorem DR.keep {w w' : World} {g vc : Nat} {xs : List Int} {q : Int → Bool} {j : Nat} (h : DR w g vc xs q j) (e : w'.heap[g]? = w.heap[g]?) : DR w' g vc xs q j := by
  obtain ⟨cur, h1, h2⟩ := h
  exact ⟨cur, e.trans h1, h2⟩
theorem DR.lt {w : World} {g vc : Nat} {xs : List Int} {q : Int → Bool} {j : Nat} (h : DR w g vc xs q j) : g < w.heap.size := by
  obtain ⟨cur, h1, h2⟩ := h
  exact (Array.getElem?_eq_some_iff.1 h1).1
theorem DR.get {w : World} {g vc : Nat} {xs : List Int} {q : Int → Bool} {j : Nat} (h : DR w g vc xs q j) {x : Int} {k : Nat} (hk : j ≤ k) (hx : xs[k]? = some x) : w.cell? ⟨g, k, none⟩ = some (.int .i64 x) := by
  obtain ⟨cur, h1, h2, h3, h4⟩ := h
  simp [World.cell?, h1, h4 k x hk hx]
theorem DR.free {w : World} {g vc : Nat} {xs : List Int} {q : Int → Bool} {j : Nat} (h : DR w g vc xs q j) (k : Nat) : w.frozen? ⟨g, k, none⟩ = false := by
  obtain ⟨cur, h1, h2⟩ := h
  simp [World.frozen?, h1]
theorem DR.there {w : World} {g vc : Nat} {xs : List Int} {q : Int → Bool} {j : Nat} (h : DR w g vc xs q j) {k : Nat} (hk : k < vc) : ∃ v, w.cell? ⟨g, k, none⟩ = some v := by
  obtain ⟨cur, h1, h2, h3⟩ := h
  exact ⟨cur[k], by simp [World.cell?, h1, Array.getElem?_eq_getElem (show k < cur.size by omega)]⟩
theorem filt_step {xs : List Int} {q : Int → Bool} {j : Nat} {x : Int} (h : xs[j]? = some x) : (xs.take (j + 1)).filter (fun p => !q p) = if q x then (xs.take j).filter (fun p => !q p) else (xs.take j).filter (fun p => !q p) ++ [x] := by
  have : xs.take (j + 1) = xs.take j ++ [x] := by rw [List.take_add_one, h]; rfl
  rw [this, List.filter_append]
  cases hq : q x <;> simp [hq]
theorem DR.skip {w : World} {g vc : Nat} {xs : List Int} {q : Int → Bool} {j : Nat} (h : DR w g vc xs q j) {x : Int} (hx : xs[j]? = some x) (hq : q x = true) : DR w g vc xs q (j + 1) := by
  obtain ⟨cur, h1, h2, h3, h4⟩ := h
  refine ⟨cur, h1, h2, ?_, fun k y hk hy => h4 k y (by omega) hy⟩
  rw [filt_step hx, if_pos hq]
  exact h3
theorem filt_len (xs : List Int) (q : Int → Bool) (j : Nat) : ((xs.take j).filter fun p => !q p).length ≤ j := Nat.le_trans (List.length_filter_le _ _) (by simp; omega)
theorem DR.put {w : World} {g vc : Nat} {xs : List Int} {q : Int → Bool} {j : Nat} (h : DR w g vc xs q j) {x : Int} (hx : xs[j]? = some x) (hq : q x = false) (hc : xs.length ≤ vc) : DR (w.setCell ⟨g, ((xs.take j).filter fun p => !q p).length, none⟩ (.int .i64 x)) g vc xs q (j + 1) := by
  obtain ⟨cur, h1, h2, h3, h4⟩ := h
  have hj : j < xs.length := (List.getElem?_eq_some_iff.1 hx).1
  have hl := filt_len xs q j
  obtain ⟨m, hm⟩ : ∃ m, ((xs.take j).filter fun p => !q p).length = m := ⟨_, rfl⟩
  rw [hm] at hl ⊢
  refine ⟨cur.setIfInBounds m (.int .i64 x), heap_setCell_same w g m cur 3 _ h1, by simp [h2], ?_, fun k y hk hy => ?_⟩
  · rw [filt_step hx, if_neg (by rw [hq]; simp)]
    intro k y hy
    by_cases hk : k < m
    · rw [List.getElem?_append_left (by omega)] at hy
      simp [Array.getElem?_setIfInBounds, show m ≠ k by omega, h3 k y hy]
    · have hkl : k < ((xs.take j).filter fun p => !q p).length + 1 := by have := (List.getElem?_eq_some_iff.1 hy).1; simpa using this
      have : k = m := by omega
      subst this
      rw [List.getElem?_append_right (by omega), hm] at hy
      simp at hy
      subst hy
      simp [Array.getElem?_setIfInBounds, h2, show k < vc by omega]
  · simp [Array.getElem?_setIfInBounds, show m ≠ k by omega, h4 k y (by omega) hy]
def ixP (q : Int → Bool) (xs : List Int) : Int := match xs.findIdx? q with | some i => (i : Int) | none => -1
theorem index_any (g vc cA cT : Nat) (xs : List Int) (q : Int → Bool) (W : World) (Gd : World → Prop) (hG : ∀ a b, Gd a → a.grownBy b (some g) → Gd b) (h0 : Gd W)
    (hC : ∀ w' p, Gd w' → p ∈ xs → Calls Tryz.prog 77 #[.int .i64 p, .pointer (some ⟨cA, 0, none⟩), .pointer (some ⟨cT, 0, none⟩)] w' fun e w'' => e = .returned (.bool (q p)) ∧ Below w'.heap.size w' w'')
    (hr : DR W g vc xs q 0) (hl : xs.length ≤ 1000000000) (hc : xs.length ≤ vc) (hcm : vc ≤ 9223372036854775807) :
    Calls Tryz.prog 103 #[.slice (some ⟨g, 0, none⟩) xs.length vc, .func (.func 77) #[] #[.pointer (some ⟨cA, 0, none⟩), .pointer (some ⟨cT, 0, none⟩)]] W fun e w' => e = .returned (.int .i64 (ixP q xs)) ∧ Below W.heap.size W w' := by
  have HG := hide hG
  have H0 := hide h0
  have HC := hide hC
  have HR := hide hr
  clear hG h0 hC hr
  go_enter Tryz.func103, Tryz.ntmps103
  go_wp2
  go_loopw [8] (fun u wr => ∃ j : Nat, j ≤ xs.length ∧ u = .int .i64 (j : Int) ∧ (∀ (k : Nat) (x : Int), k < j → xs[k]? = some x → q x = false) ∧ Below W.heap.size W wr) (fun u _ => xs.length - (intOf u).toNat)
  case atStart => exact ⟨0, Nat.zero_le _, rfl, fun k x h => by omega, Below.refl _ _⟩
  case round =>
    obtain ⟨j, hj, rfl, hn, hb⟩ := hrel
    have HN := hide hn
    have HB := hide hb
    clear hn hb
    by_cases hjl : j < xs.length
    · obtain ⟨x, hx⟩ : ∃ x, xs[j]? = some x := ⟨_, List.getElem?_eq_getElem hjl⟩
      have hRr : DR wr g vc xs q 0 := (unhide HR).keep ((unhide HB).block g (unhide HR).lt)
      have cj := hRr.get (Nat.zero_le j) hx
      have hgl := hRr.lt
      have HGd : Hid (Gd wr) := unhide HG _ _ (unhide H0) ⟨(unhide HB).os, (unhide HB).tape, (unhide HB).output, (unhide HB).size, fun k hk _ => (unhide HB).block k hk⟩
      have HX := hide hx
      clear hx hRr
      cases hq : q x with
      | true =>
        go_wp2_with (first
          | (go_at_call 77
             refine (unhide HC wr x (unhide HGd) (List.mem_of_getElem? (unhide HX))).mono ?_
             rw [hq]
             rintro e w2 ⟨rfl, hb2⟩))
        go_ret
        refine ⟨?_, (unhide HB).trans (hb2.mono (unhide HB).size)⟩
        have : xs.findIdx? q = some j := by
          rw [List.findIdx?_eq_some_iff_getElem]
          have hxj : xs[j] = x := (List.getElem?_eq_some_iff.1 (unhide HX)).2
          refine ⟨hjl, by rw [hxj]; exact hq, fun i hi => ?_⟩
          have := unhide HN i xs[i] hi (List.getElem?_eq_getElem (by omega))
          rw [this]; simp
        unfold ixP
        rw [this]
        rfl
      | false =>
        go_wp2_with (first
          | (go_at_call 77
             refine (unhide HC wr x (unhide HGd) (List.mem_of_getElem? (unhide HX))).mono ?_
             rw [hq]
             rintro e w2 ⟨rfl, hb2⟩
             have HB2 := hide ((unhide HB).trans (hb2.mono (unhide HB).size))
             clear hb2))
        go_roundw
        case rel =>
          refine ⟨j + 1, by omega, by go_num, fun k y hk hy => ?_, unhide HB2⟩
          by_cases e : k = j
          · subst e
            have := (unhide HX).symm.trans hy
            cases this
            exact hq
          · exact unhide HN k y (by omega) hy
        case measure => simp [intOf]; omega
    · have hje : j = xs.length := by omega
      subst hje
      go_wp2
      go_ret
      refine ⟨?_, unhide HB⟩
      have : xs.findIdx? q = none := by
        rw [List.findIdx?_eq_none_iff]
        intro x hx
        obtain ⟨k, hk, rfl⟩ := List.getElem_of_mem hx
        exact unhide HN k _ hk (List.getElem?_eq_getElem hk)
      unfold ixP
      rw [this]
      rfl
end Go.Proofs.YticdaphajanbbaaGreatDoor

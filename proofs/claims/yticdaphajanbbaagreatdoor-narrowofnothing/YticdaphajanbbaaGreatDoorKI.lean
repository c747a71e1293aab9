/- The texts of several types. -/
import Derived.Deep.OwnRows
import Derived.Test.YticdaphajanbbaaGreatDoorKH
namespace Go.Proofs.YticdaphajanbbaaGreatDoor
set_option linter.unusedSimpArgs false
set_option linter.unusedVariables false
set_option maxRecDepth 100000
set_option maxHeartbeats 2000000
open Go.RowKit Go.Shelf

variable {P : Program} {lo M : Nat} {mo : Option Nat} {dv : Value} {L : List Kt} {W : World}
/-- A row of its own that is being filled. -/
def FillR (w : World) (t g n i : Nat) (f : Nat → Value) : Prop := ∃ cur : Array Value, w.heap[g]? = some (.cells cur t) ∧ cur.size = n ∧ ∀ j, j < i → cur[j]? = some (f j)
theorem FillR.below {w w' : World} {t g n i B : Nat} {f : Nat → Value} (h : FillR w t g n i f) (hb : Below B w w') (hB : g < B) : FillR w' t g n i f := by
  obtain ⟨cur, h1, h2⟩ := h
  exact ⟨cur, (hb.block g hB).trans h1, h2⟩
theorem FillR.lt {w : World} {t g n i : Nat} {f : Nat → Value} (h : FillR w t g n i f) : g < w.heap.size := by
  obtain ⟨cur, h1, h2⟩ := h
  exact (Array.getElem?_eq_some_iff.1 h1).1
theorem FillR.free {w : World} {t g n i : Nat} {f : Nat → Value} (h : FillR w t g n i f) (j : Nat) : w.frozen? ⟨g, j, none⟩ = false := by
  obtain ⟨cur, h1, h2⟩ := h
  simp [World.frozen?, h1]
theorem FillR.there {w : World} {t g n i : Nat} {f : Nat → Value} (h : FillR w t g n i f) {j : Nat} (hj : j < n) : ∃ v, w.cell? ⟨g, j, none⟩ = some v := by
  obtain ⟨cur, h1, h2, h3⟩ := h
  exact ⟨cur[j], by simp [World.cell?, h1, Array.getElem?_eq_getElem (show j < cur.size by omega)]⟩
theorem FillR.set {w : World} {t g n i : Nat} {f : Nat → Value} (h : FillR w t g n i f) (hi : i < n) : FillR (w.setCell ⟨g, i, none⟩ (f i)) t g n (i + 1) f := by
  obtain ⟨cur, h1, h2, h3⟩ := h
  refine ⟨cur.setIfInBounds i (f i), heap_setCell_same w g i cur t (f i) h1, by simp [h2], fun j hj => ?_⟩
  by_cases e : j = i
  · subst e; simp [Array.getElem?_setIfInBounds, h2, hi]
  · simp [Array.getElem?_setIfInBounds, Ne.symm e, h3 j (by omega)]
theorem FillR.made (W : World) (t n : Nat) (z : Value) (f : Nat → Value) : FillR (W.alloc (.cells (madeCells #[z] n) t)) t W.heap.size n 0 f := ⟨_, al_at W _, size_madeCells _ _, fun j hj => by omega⟩
theorem FillR.owns {w : World} {t g n B : Nat} {f : Nat → Value} (h : FillR w t g n n f) (hB : B ≤ g) (hn : n ≤ maxLen) (xs : List Value) (hx : ∀ j, j < n → xs[j]? = some (f j)) (hl : xs.length = n) : w.ownsRow B t 1 (.slice (some ⟨g, 0, none⟩) n n) n xs := by
  obtain ⟨cur, h1, h2, h3⟩ := h
  refine ⟨by omega, .inr ⟨g, n, cur, rfl, hB, h1, Nat.le_refl _, hn, by omega, ?_⟩⟩
  apply List.ext_getElem?
  intro j
  rw [List.getElem?_take]
  split
  · rw [hx j (by omega), ← h3 j (by omega)]; simp
  · rw [List.getElem?_eq_none (by omega)]
def nkt : Kt := ⟨0, 0, ⟨#[]⟩, [], [], [], ⟨#[]⟩, 0⟩
def ktAt (L : List Kt) (p : Int) : Kt := (L[p.toNat]?).getD nkt
theorem ktAt_of {L : List Kt} {i : Nat} {k : Kt} (h : L[i]? = some k) : ktAt L (i : Int) = k := by simp [ktAt, h]
theorem ktAt_get {L : List Kt} {p : Int} (h : Is L p) : L[p.toNat]? = some (ktAt L p) ∧ ktAt L p ∈ L := by
  obtain ⟨i, k, rfl, _, hk⟩ := h.get
  have : (i : Int).toNat = i := by omega
  rw [this, ktAt_of hk]
  exact ⟨hk, List.mem_of_getElem? hk⟩
def allW (L : List Kt) (ps ks : List Int) : List ByteArray := ps.map fun p => closedW (ktAt L p) ks
theorem words_le {L : List Kt} (hs : SzOk L) (hw : WdOk L) {k : Kt} (hk : k ∈ L) : k.words.size ≤ 2147483648000 := by
  have := hs k hk; have := hw k hk; omega
theorem allWords_any (h : AAt Tryz.prog lo M mo dv L W) (hs : SzOk L) (hw : WdOk L) (pv kv : Value) (ps ks : List Int) (hp : RowR 3 W pv (iv ps)) (hq : RowR 3 W kv (iv ks)) (hv : ∀ p ∈ ps, Is L p) (hl : ps.length ≤ 1000000000) (hl2 : ks.length ≤ 1000000000) :
    Calls Tryz.prog 60 #[.pointer (some ⟨M, 0, none⟩), pv, kv] W (CloneQ 9 (sv (allW L ps ks)) W) := by
  obtain ⟨pa, pc, rfl, q1, q2⟩ := hp.cap
  obtain ⟨ka, kc, rfl, q3, q4⟩ := hq.cap
  have hM := h.lt
  have hmk := fun w => run_make_row' (P := Tryz.prog) 33 9 (.string ⟨#[]⟩) 16 Tryz.underlying33 infoStr rfl .i64 .i64 ps.length (by omega) (by omega) w
  have HA : Hid (∀ w', Below W.heap.size W w' → AAt Tryz.prog lo M mo dv L w') := fun w' hb => h.below hb
  have HP : Hid (∀ w', Below W.heap.size W w' → RowR 3 w' (.slice pa (iv ps).length pc) (iv ps)) := fun w' hb => hp.below hb
  have HQ : Hid (∀ w', Below W.heap.size W w' → RowR 3 w' (.slice ka (iv ks).length kc) (iv ks)) := fun w' hb => hq.below hb
  have HV := hide hv
  have HS := hide hs
  have HW := hide hw
  have hl2' := hide hl2
  clear h hp hq hv hs hw hl2
  obtain ⟨f, hf⟩ : ∃ f : Nat → Value, f = fun j => .string (closedW (ktAt L (ps.getD j 0)) ks) := ⟨_, rfl⟩
  have hF0 := FillR.made W 9 ps.length (.string ⟨#[]⟩) f
  obtain ⟨W1, hW1⟩ : ∃ W1, W.alloc (.cells (madeCells #[Value.string ⟨#[]⟩] ps.length) 9) = W1 := ⟨_, rfl⟩
  rw [hW1] at hF0
  have hb1 : Below W.heap.size W W1 := by rw [← hW1]; exact (Below.refl _ W).alloc (Nat.le_refl _) _
  have HF0 := hide hF0
  have HB1 := hide hb1
  clear hF0 hb1
  rw [iv_len] at *
  go_enter Tryz.func60, Tryz.ntmps60
  go_wp2
  clear hmk hW1
  go_loopw [15] (fun u wr => ∃ i : Nat, i ≤ ps.length ∧ u = .int .i64 (i : Int) ∧ FillR wr 9 W.heap.size ps.length i f ∧ Below W.heap.size W wr) (fun u _ => ps.length - (intOf u).toNat)
  case atStart => exact ⟨0, Nat.zero_le _, rfl, unhide HF0, unhide HB1⟩
  case round =>
    obtain ⟨i, hi, rfl, hfi, hbr⟩ := hrel
    have HF := hide hfi
    have HB := hide hbr
    clear hfi hbr
    by_cases hil : i < ps.length
    · obtain ⟨p, hpi⟩ : ∃ p, ps[i]? = some p := ⟨_, List.getElem?_eq_getElem hil⟩
      have HP' := unhide HP wr (unhide HB)
      rw [← iv_len] at HP'
      obtain ⟨b, o, rfl, cp, hbl⟩ := HP'.int hpi
      have HI := hide (unhide HV p (List.mem_of_getElem? hpi))
      obtain ⟨j, k, rfl, hjl, hk⟩ := (unhide HI).get
      have HK := hide hk
      have hfe : f i = .string (closedW k ks) := by rw [hf]; simp [hpi, ktAt_of hk]
      have HFE := hide hfe
      have HWL := hide (words_le (unhide HS) (unhide HW) (List.mem_of_getElem? hk))
      clear HP' hpi hk hfe
      go_wp2_with (first
       | (go_at_call 49
          refine (closed_any (unhide HA wr (unhide HB)) j k (unhide HK) _ ks (by rw [iv_len]; exact unhide HQ wr (unhide HB)) (Nat.le_trans (unhide HWL) (by omega)) (unhide hl2')).mono ?_
          rintro e w1 ⟨rfl, hb⟩
          have hF1 := (unhide HF).below hb (unhide HF).lt
          have HF1 := hide hF1
          have HB1' := hide ((unhide HB).trans (hb.mono (unhide HB).size))
          have ff := hF1.free i
          obtain ⟨vi, hvi⟩ := hF1.there hil
          have hlt1 := hF1.lt
          clear hb hF1))
      have hBw := (unhide HB1').setCell (p := ⟨W.heap.size, i, none⟩) (Nat.le_refl _) (.string (closedW k ks))
      have hFw := (unhide HF1).set hil
      rw [unhide HFE] at hFw
      have HBW := hide hBw
      have HFW := hide hFw
      clear hBw hFw
      go_roundw
      case rel => exact ⟨i + 1, by omega, by go_num, unhide HFW, unhide HBW⟩
      case measure => simp [intOf]; omega
    · have hie : i = ps.length := by omega
      subst hie
      have hlen : (sv (allW L ps ks)).length = ps.length := by simp [sv, allW]
      have hown := (unhide HF).owns (B := W.heap.size) (Nat.le_refl _) (by unfold maxLen; omega) (sv (allW L ps ks)) (fun j hj => by
        rw [hf]
        simp [sv, allW, hj]) hlen
      have HO := hide hown
      have HLE := hide hlen
      clear hown hlen hf
      go_wp2
      go_ret
      exact ⟨_, rfl, by rw [unhide HLE]; exact unhide HO, unhide HB⟩
end Go.Proofs.YticdaphajanbbaaGreatDoor

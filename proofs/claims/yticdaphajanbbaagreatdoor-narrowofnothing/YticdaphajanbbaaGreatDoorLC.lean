/- Types sorted by their texts, where they are in order. -/
import Derived.Test.YticdaphajanbbaaGreatDoorLB
namespace Go.Proofs.YticdaphajanbbaaGreatDoor
set_option linter.unusedSimpArgs false
set_option linter.unusedVariables false
set_option maxRecDepth 100000
set_option maxHeartbeats 4000000
open Go.RowKit Go.Shelf

variable {P : Program} {lo M : Nat} {mo : Option Nat} {dv : Value} {L : List Kt} {W : World}
theorem joined1_any (h : AAt Tryz.prog lo M mo dv L W) (cA : Nat) (hx : Bx W cA #[.pointer (some ⟨M, 0, none⟩)] 28) (i : Nat) (k : Kt) (hk : L[i]? = some k) (hw : k.words.size ≤ 4611686018427387904) : Calls Tryz.prog 48 #[.int .i64 (i : Int), .pointer (some ⟨cA, 0, none⟩)] W fun e w' => e = .returned (.string (closedW k [15])) ∧ Below W.heap.size W w' := by
  have hb1 := (Below.refl _ W).alloc (Nat.le_refl _) (.cells #[.int .i64 15] 3)
  have hk3 : RowR 3 (W.alloc (.cells #[.int .i64 15] 3)) (.slice (some ⟨W.heap.size, 0, none⟩) 1 1) (iv [15]) := ⟨_, 1, rfl, Nat.le_refl _, by decide, .inr ⟨_, 0, _, (0, 0), rfl, al_at W _, fun j x hx => by
    have : j = 0 := by
      have := (List.getElem?_eq_some_iff.1 hx).1
      simp [iv] at this
      omega
    subst this
    simpa [iv] using hx⟩⟩
  have HC := hide (closed_any (h.below hb1) i k hk _ [15] hk3 hw (by simp))
  have c0 := hx.cell 0 rfl
  have hl := hx.lt
  have HB1 := hide hb1
  clear h hx hk hw hk3 hb1
  go_enter Tryz.func48, Tryz.ntmps48
  go_wp2_with (first
    | (go_at_call 49
       refine (unhide HC).mono ?_
       rintro e w2 ⟨rfl, hb2⟩))
  go_ret
  exact ⟨rfl, (unhide HB1).trans (hb2.mono (unhide HB1).size)⟩
theorem infoKeyed : (Tryz.prog.info? 126).map (fun i => (i.zero, i.size, i.bytes)) = some (some (.agg #[.string ⟨#[]⟩, .int .i64 0]), 2, 24) := by kernel_rfl
theorem info172 : (Tryz.prog.info? 126).map (·.size) = some 2 := by kernel_rfl
theorem one2 (s : ByteArray) (x : Int) : (#[.string s, .int .i64 x] : Array Value).all (·.oneCell') = true := by simp [Value.oneCell']
theorem F2.set {w : World} {g n i : Nat} {f : Nat → ByteArray × Int} (h : F2 w g n i f) (hi : i < n) : F2 (w.setCells g (i * 2) [.string (f i).1, .int .i64 (f i).2]) g n (i + 1) f := by
  obtain ⟨cur, h1, h2, h3⟩ := h
  have e1 := heap_setCell_same w g (i * 2) cur 126 (.string (f i).1) h1
  have e2 := heap_setCell_same _ g (i * 2 + 1) _ 126 (.int .i64 (f i).2) e1
  refine ⟨_, e2, by simp [h2], fun j hj => ?_⟩
  by_cases e : j = i
  · subst e
    simp [Array.getElem?_setIfInBounds, h2, show j * 2 < n * 2 by omega, show j * 2 + 1 < n * 2 by omega]
  · obtain ⟨a, b⟩ := h3 j (by omega)
    simp [Array.getElem?_setIfInBounds, show i * 2 ≠ j * 2 by omega, show i * 2 + 1 ≠ j * 2 by omega, show i * 2 ≠ j * 2 + 1 by omega, show i * 2 + 1 ≠ j * 2 + 1 by omega, a, b]
theorem F2.there {w : World} {g n i : Nat} {f : Nat → ByteArray × Int} (h : F2 w g n i f) (hi : i < n) : w.there g (i * 2) 2 := fun j hj => by
  obtain ⟨cur, h1, h2, h3⟩ := h
  have : i * 2 + j < cur.size := by omega
  exact ⟨by simp [World.cell?, h1, Array.getElem?_eq_getElem this], by simp [World.frozen?, h1]⟩
def keyF (L : List Kt) (ps : List Int) (j : Nat) : ByteArray × Int := (closedW (ktAt L (ps.getD j 0)) [15], ps.getD j 0)
theorem sortBy_sorted (h : AAt Tryz.prog lo M mo dv L W) (hs : SzOk L) (hw : WdOk L) (cA : Nat) (hx : Bx W cA #[.pointer (some ⟨M, 0, none⟩)] 28) (g vc : Nat) (ps : List Int) (cur : Array Value) (hg : W.heap[g]? = some (.cells cur 3)) (hcur : ∀ (j : Nat) (x : Int), ps[j]? = some x → cur[j]? = some (.int .i64 x)) (hv : ∀ p ∈ ps, Is L p) (hn : 1 ≤ ps.length) (hl : ps.length < 20) (hc : ps.length ≤ vc) (hcm : vc ≤ 9223372036854775807)
    (hso : ∀ j, j + 1 < ps.length → Op.bytesLess (keyF L ps (j + 1)).1.toList (keyF L ps j).1.toList = false) :
    Calls Tryz.prog 47 #[.slice (some ⟨g, 0, none⟩) ps.length vc, .func (.func 48) #[] #[.pointer (some ⟨cA, 0, none⟩)]] W fun e w' => e = .returned (.tuple #[]) ∧ Below W.heap.size W w' := by
  obtain ⟨i0, hi0, hz0, hz1, hz2⟩ := info_parts infoKeyed
  have hmk : ∀ w, (Instr.makeSlice 124 (.int .i64 (ps.length : Int)) (.int .i64 (ps.length : Int))).run Tryz.prog w = .ok (.slice (some ⟨w.heap.size, 0, none⟩) ps.length ps.length) (w.alloc (.cells (madeCells #[.string ⟨#[]⟩, .int .i64 0] (ps.length * 2)) 126)) := fun w => by
    have := run_make (P := Tryz.prog) w 124 126 i0 _ Tryz.underlying124 hi0 hz0 .i64 .i64 (ps.length : Int) (ps.length : Int) (by omega) (by omega) (by rw [hz2]; omega) (by omega)
    simp only [Int.toNat_natCast, hz1] at this
    exact this
  have HA : Hid (∀ w', Below W.heap.size W w' → AAt Tryz.prog lo M mo dv L w') := fun w' hb => h.below hb
  have HX : Hid (∀ w', Below W.heap.size W w' → Bx w' cA #[.pointer (some ⟨M, 0, none⟩)] 28) := fun w' hb => hx.below hb hx.lt
  have hgl : g < W.heap.size := (Array.getElem?_eq_some_iff.1 hg).1
  have HG : Hid (∀ w', Below W.heap.size W w' → ∀ (j : Nat) (x : Int), ps[j]? = some x → w'.cell? ⟨g, j, none⟩ = some (.int .i64 x) ∧ w'.frozen? ⟨g, j, none⟩ = false ∧ w'.setCell ⟨g, j, none⟩ (.int .i64 x) = w') := fun w' hb j x hjx => by
    have hh : w'.heap[g]? = some (.cells cur 3) := (hb.block g hgl).trans hg
    exact ⟨by simp [World.cell?, hh, hcur j x hjx], by simp [World.frozen?, hh], setCell_same hh (hcur j x hjx)⟩
  have HV := hide hv
  have HS := hide hs
  have HW := hide hw
  have HSO := hide hso
  have hF0 : F2 (W.alloc (.cells (madeCells #[.string ⟨#[]⟩, .int .i64 0] (ps.length * 2)) 126)) W.heap.size ps.length 0 (keyF L ps) := ⟨_, al_at W _, size_madeCells _ _, fun j hj => by omega⟩
  obtain ⟨W1, hW1⟩ : ∃ W1, W.alloc (.cells (madeCells #[.string ⟨#[]⟩, .int .i64 0] (ps.length * 2)) 126) = W1 := ⟨_, rfl⟩
  have hb1 : Below W.heap.size W W1 := by rw [← hW1]; exact (Below.refl _ W).alloc (Nat.le_refl _) _
  rw [hW1] at hF0
  have HF0 := hide hF0
  have HB1 := hide hb1
  clear h hs hw hx hg hcur hv hso hF0 hb1 hi0 hz0 hz1 hz2
  go_enter Tryz.func47, Tryz.ntmps47
  go_wp2
  clear hmk hW1
  go_loopw [14] (fun u wr => ∃ i : Nat, i ≤ ps.length ∧ u = .int .i64 (i : Int) ∧ F2 wr W.heap.size ps.length i (keyF L ps) ∧ Below W.heap.size W wr) (fun u _ => ps.length - (intOf u).toNat)
  case atStart => exact ⟨0, Nat.zero_le _, rfl, unhide HF0, unhide HB1⟩
  case round =>
    obtain ⟨i, hi, rfl, hfi, hb⟩ := hrel
    have HF := hide hfi
    have HB := hide hb
    clear hfi hb
    by_cases hil : i < ps.length
    · obtain ⟨p, hpi⟩ : ∃ p, ps[i]? = some p := ⟨_, List.getElem?_eq_getElem hil⟩
      have cp := (unhide HG wr (unhide HB) i p hpi).1
      have hgw : g < wr.heap.size := Nat.lt_of_lt_of_le hgl (unhide HB).size
      obtain ⟨j, k, rfl, hjl, hk⟩ := (unhide HV p (List.mem_of_getElem? hpi)).get
      have HK := hide hk
      have hke : keyF L ps i = (closedW k [15], (j : Int)) := by simp [keyF, hpi, ktAt_of hk]
      have HKE := hide hke
      have HWL := hide (words_le (unhide HS) (unhide HW) (List.mem_of_getElem? hk))
      clear hpi hk hke
      go_wp2_with (first
        | (go_at_call 48
           refine (joined1_any (unhide HA wr (unhide HB)) cA (unhide HX wr (unhide HB)) j k (unhide HK) (Nat.le_trans (unhide HWL) (by omega))).mono ?_
           rintro e w2 ⟨rfl, hb2⟩
           have HF2 := hide ((unhide HF).keep (hb2.block _ (unhide HF).lt))
           have HB2 := hide ((unhide HB).trans (hb2.mono (unhide HB).size))
           clear hb2)
        | (refine wpList_store_mid rfl 126 _ _ rfl W.heap.size (i * 2) _ rfl rfl ((unhide HF2).there hil) info172 (one2 _ _) ?_))
      have hF3 := (unhide HF2).set hil
      rw [unhide HKE] at hF3
      have HF3 := hide hF3
      have HB3 : Hid (Below W.heap.size W (w2.setCells W.heap.size (i * 2) [.string (closedW k [15]), .int .i64 (j : Int)])) := ((unhide HB2).setCell (p := ⟨W.heap.size, _, none⟩) (Nat.le_refl _) _).setCell (p := ⟨W.heap.size, _, none⟩) (Nat.le_refl _) _
      clear hF3
      go_roundw
      case rel => exact ⟨i + 1, by omega, by go_num, unhide HF3, unhide HB3⟩
      case measure => simp [intOf]; omega
    · have hie : i = ps.length := by omega
      subst hie
      have HSORT := hide (sort_sorted W.heap.size ps.length ps.length (keyF L ps) wr (unhide HF) hn hl (Nat.le_refl _) (unhide HSO))
      go_wp2_with (first
        | (go_at_call 79
           refine (unhide HSORT).mono ?_
           rintro e w4 ⟨rfl, hb4⟩
           have HF4 := hide ((unhide HF).keep (hb4.block _ (unhide HF).lt))
           have HB4 := hide ((unhide HB).trans (hb4.mono (unhide HB).size))
           clear hb4))
      obtain ⟨wq, hwq⟩ : ∃ wq, wq = wr := ⟨_, rfl⟩
      subst hwq
      go_loopw [32] (fun u wr => ∃ i : Nat, i ≤ ps.length ∧ u = .int .i64 (i : Int) ∧ F2 wr W.heap.size ps.length ps.length (keyF L ps) ∧ Below W.heap.size W wr) (fun u _ => ps.length - (intOf u).toNat)
      case atStart => exact ⟨0, Nat.zero_le _, rfl, unhide HF4, unhide HB4⟩
      case round =>
        obtain ⟨i, hi, rfl, hfi, hb⟩ := hrel
        have HF5 := hide hfi
        have HB5 := hide hb
        clear hfi hb
        by_cases hil : i < ps.length
        · obtain ⟨p, hpi⟩ : ∃ p, ps[i]? = some p := ⟨_, List.getElem?_eq_getElem hil⟩
          have hke : keyF L ps i = (closedW (ktAt L p) [15], p) := by simp [keyF, hpi]
          obtain ⟨e1, e2⟩ := (unhide HF5).get hil
          rw [hke] at e1 e2
          obtain ⟨ky, hky⟩ : ∃ ky, closedW (ktAt L p) [15] = ky := ⟨_, rfl⟩
          simp only [hky] at e1 e2
          have hFl := (unhide HF5).lt
          have HRG : Hid (wr.rangeAt W.heap.size (i * 2) [.string ky, .int .i64 p]) := fun j v hj => by
            match j, hj with
            | 0, hj => simp at hj; subst hj; exact e1
            | 1, hj => simp at hj; subst hj; exact e2
            | j + 2, hj => simp at hj
          obtain ⟨X, hX⟩ : ∃ X, wr.alloc (.cells #[.string ky, .int .i64 p] 126) = X := ⟨_, rfl⟩
          have hbX : Below wr.heap.size wr X := by rw [← hX]; exact (Below.refl _ wr).alloc (Nat.le_refl _) _
          have hBX : Below W.heap.size W X := (unhide HB5).trans (hbX.mono (unhide HB5).size)
          obtain ⟨q1, q2, q3⟩ := unhide HG X hBX i p hpi
          have hxX : Bx X wr.heap.size #[.string ky, .int .i64 p] 126 := by rw [← hX]; exact al_at wr _
          have q5 := hxX.cell 1 rfl
          have q6 := hxX.lt
          have hgX : g < X.heap.size := Nat.lt_of_lt_of_le hgl hBX.size
          have HQ3 := hide q3
          have HBX := hide hBX
          have HFX := hide ((unhide HF5).keep (hbX.block _ (unhide HF5).lt))
          clear hke hky hbX hBX q3 hpi hxX
          go_wp2_with (first
            | (refine wpList_load_mid rfl 126 _ rfl W.heap.size (i * 2) rfl [.string ky, .int .i64 p] _ (unhide HRG) Tryz.underlying126 rfl info172 ?_))
          have HE : Hid (F2 (X.setCell ⟨g, i, none⟩ (.int .i64 p)) W.heap.size ps.length ps.length (keyF L ps) ∧ Below W.heap.size W (X.setCell ⟨g, i, none⟩ (.int .i64 p))) := by rw [unhide HQ3]; exact ⟨unhide HFX, unhide HBX⟩
          go_roundw
          case rel => exact ⟨i + 1, by omega, by go_num, (unhide HE).1, (unhide HE).2⟩
          case measure => simp [intOf]; omega
        · have hie : i = ps.length := by omega
          subst hie
          go_wp2
          exact bodyPost_end (results_none rfl _ _ _) rfl ⟨rfl, unhide HB5⟩
end Go.Proofs.YticdaphajanbbaaGreatDoor

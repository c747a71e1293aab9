/- What a union has of types: where no type is wider than another. -/
import Derived.Test.YticdaphajanbbaaGreatDoorKY
namespace Go.Proofs.YticdaphajanbbaaGreatDoor
set_option linter.unusedSimpArgs false
set_option linter.unusedVariables false
set_option maxRecDepth 100000
set_option maxHeartbeats 4000000
open Go.RowKit Go.Shelf

variable {P : Program} {lo M : Nat} {mo : Option Nat} {dv : Value} {L : List Kt} {W : World}
/-- No type that stands for values of a wider one, no union. -/
def Wide (L : List Kt) (ids : List Int) : Prop := ∀ p ∈ ids, kindP L p ≠ 11 ∧ kindP L p ≠ 12 ∧ kindP L p ≠ 20
def restP (L : List Kt) (ids : List Int) : List Int := (onceP ids).filter fun p => !(kindP L p == 3)
theorem DR.owns {w : World} {g vc B : Nat} {xs : List Int} {q : Int → Bool} (h : DR w g vc xs q xs.length) (hB : B ≤ g) (hc : xs.length ≤ vc) (hm : vc ≤ maxLen) : w.ownsRow B 3 1 (.slice (some ⟨g, 0, none⟩) (xs.filter fun p => !q p).length vc) (xs.filter fun p => !q p).length (iv (xs.filter fun p => !q p)) := by
  obtain ⟨cur, h1, h2, h3, h4⟩ := h
  rw [List.take_length] at h3
  have hl : (xs.filter fun p => !q p).length ≤ xs.length := List.length_filter_le _ _
  refine ⟨by rw [iv_len]; omega, .inr ⟨g, vc, cur, rfl, hB, h1, by omega, hm, by omega, ?_⟩⟩
  apply List.ext_getElem?
  intro j
  rw [List.getElem?_take]
  split
  · rename_i hj
    obtain ⟨x, hx⟩ : ∃ x, (xs.filter fun p => !q p)[j]? = some x := ⟨_, List.getElem?_eq_getElem (by omega)⟩
    rw [iv_get hx]
    have := h3 j x hx
    simpa using this
  · rw [List.getElem?_eq_none (by rw [iv_len]; omega)]
theorem own_DR {w : World} {B g vc : Nat} {xs : List Int} {q : Int → Bool} (h : w.ownsRow B 3 1 (.slice (some ⟨g, 0, none⟩) xs.length vc) xs.length (iv xs)) : DR w g vc xs q 0 ∧ xs.length ≤ vc ∧ vc ≤ maxLen ∧ B ≤ g := by
  rcases h.2 with ⟨e, _⟩ | ⟨g', cap, cur, e, hB, hh, hn, hc, hcs, hx⟩
  · cases e
  · cases e
    refine ⟨⟨cur, hh, by omega, fun k x hx => by simp at hx, fun k x _ hx' => ?_⟩, hn, hc, hB⟩
    have := h.cells (g := g) rfl k _ (iv_get hx')
    rw [Addr.add_lit] at this
    simpa [World.cell?, hh] using this
theorem once_ne {ids : List Int} (h : ids ≠ []) : onceP ids ≠ [] := by
  cases ids with
  | nil => exact absurd rfl h
  | cons p l =>
    intro e
    have := fold_pre l (addP [] p)
    have he : onceP (p :: l) = l.foldl addP (addP [] p) := rfl
    rw [← he, e] at this
    have := List.prefix_nil.1 this
    simp [addP] at this
theorem left_flat (W : World) (ids : List Int) (pa : Option Addr) (pc : Nat) (hA : AAt Tryz.prog lo M mo dv L W) (hp : RowR 3 W (.slice pa ids.length pc) (iv ids)) (hf : Flat L ids) (hw : Wide L ids) (hne : ids ≠ []) (hl : ids.length ≤ 1000000000) (hol : (onceP ids).length ≤ 1000000000) :
    Calls Tryz.prog 46 #[.pointer (some ⟨M, 0, none⟩), .slice pa ids.length pc] W (CloneQ 3 (iv (restP L ids)) W) := by
  have hb1 := (Below.refl _ W).alloc (Nat.le_refl _) (.cells #[.pointer (some ⟨M, 0, none⟩)] 28)
  obtain ⟨W1, hW1⟩ : ∃ W1, W.alloc (.cells #[.pointer (some ⟨M, 0, none⟩)] 28) = W1 := ⟨_, rfl⟩
  rw [hW1] at hb1
  have hx1 : Bx W1 W.heap.size #[.pointer (some ⟨M, 0, none⟩)] 28 := by rw [← hW1]; exact al_at W _
  have HA : Hid (∀ w', Below W.heap.size W w' → AAt Tryz.prog lo M mo dv L w') := fun w' hb => hA.below hb
  have HP : Hid (∀ w', Below W.heap.size W w' → RowR 3 w' (.slice pa ids.length pc) (iv ids)) := fun w' hb => hp.below hb
  have HF := hide hf
  have HWI := hide hw
  have HNE := hide hne
  have HOL := hide hol
  have HB1 := hide hb1
  have HX1 := hide hx1
  have hM := hA.lt
  have c1 := hx1.cell 0 rfl
  have l1 := hx1.lt
  have hmm := @run_makeMap Tryz.prog
  clear hA hp hf hw hne hol hb1 hx1
  go_enter Tryz.func46, Tryz.ntmps46
  go_wp2_with (first
    | (go_at_call 73
       refine (apart_any M pa ids.length pc _).mono ?_
       rintro e w2 ⟨rfl, h21, h22, hb2⟩
       have HX2 := hide h21
       have HY2 := hide h22
       have HB2 := hide ((unhide HB1).trans (hb2.mono (unhide HB1).size))
       have HZ2 := hide ((unhide HX1).below hb2 (unhide HX1).lt)
       clear h21 h22 hb2)
    | (go_at_call 75
       refine (collect_flat w2 _ _ ids pa pc (unhide HA _ (unhide HB2)) (unhide HP _ (unhide HB2)) (unhide HF) hl (unhide HOL) (unhide HX2) (unhide HY2)).mono ?_
       rintro e w3 ⟨v3, rfl, ho3, hb3⟩
       have HO3 := hide ho3
       have HB3 := hide ((unhide HB2).trans (hb3.mono (unhide HB2).size))
       have HZ3 := hide ((unhide HZ2).below hb3 (unhide HZ2).lt)
       obtain ⟨va, vc, rfl, -⟩ := own_rowR ho3
       have hz23 := (unhide HZ2).lt
       clear ho3 hb3))
  have hmem : ∀ p ∈ onceP ids, p ∈ ids := fun p hp => by
    rcases once_mem ids [] p hp with h | h
    · cases h
    · exact h
  obtain ⟨g, hg⟩ : ∃ g, va = some ⟨g, 0, none⟩ := by
    rcases (unhide HO3).2 with ⟨_, e⟩ | ⟨g, cap, cur, e, _⟩
    · exfalso
      apply once_ne (unhide HNE)
      rw [iv_len] at e
      exact List.length_eq_zero_iff.1 e
    · exact ⟨g, by injection e⟩
  subst hg
  have HRP : Hid (restP L ids = (onceP ids).filter fun p => !(kindP L p == 3)) := rfl
  obtain ⟨O, hO⟩ : ∃ O, onceP ids = O := ⟨_, rfl⟩
  rw [hO] at HO3 hmem HOL HRP ⊢
  rw [iv_len] at HO3 ⊢
  clear hO
  obtain ⟨hDR, hcv, hcm, hgB⟩ := own_DR (q := fun p => kindP L p == 3) (unhide HO3)
  obtain ⟨X, hX⟩ : ∃ X, (w3.alloc (.map #[] 0)).alloc (.cells #[.map (some w3.heap.size)] 118) = X := ⟨_, rfl⟩
  have hbX : Below w3.heap.size w3 X := by rw [← hX]; exact ((Below.refl _ w3).alloc (Nat.le_refl _) _).alloc (by simp) _
  have hsX : X.heap.size = w3.heap.size + 1 + 1 := by rw [← hX]; simp
  have hset : SetAt X w3.heap.size 0 [] := by
    rw [← hX]
    exact (World.ownsMap_made w3 _ _ _).alloc _
  have hbx : Bx X (w3.heap.size + 1) #[.map (some w3.heap.size)] 118 := by
    rw [← hX]
    have := al_at (w3.alloc (.map #[] 0)) (.cells #[.map (some w3.heap.size)] 118)
    simpa [Bx] using this
  have hDX := hDR.keep (hbX.block g hDR.lt)
  have hg3 := hDR.lt
  have hZX := (unhide HZ3).below hbX (unhide HZ3).lt
  have hz3l := (unhide HZ3).lt
  have HBX := hide ((unhide HB3).trans (hbX.mono (unhide HB3).size))
  have HSET := hide hset
  have HBOX := hide hbx
  have HDX := hide hDX
  have HZX := hide hZX
  have HSX := hide hsX
  have HMEM := hide hmem
  have hol := unhide HOL
  have hW2 : W.heap.size ≤ w2.heap.size := (unhide HB2).size
  rw [hX]
  unfold maxLen at hcm
  clear hX hbX hsX hset hbx hDR hDX hZX hmem hmm
  go_loopw [16] (fun u wr => ∃ i : Nat, i ≤ O.length ∧ u = .int .i64 (i : Int) ∧ SetAt wr w3.heap.size i (O.take i) ∧ X.grownBy wr (some w3.heap.size)) (fun u _ => O.length - (intOf u).toNat)
  case atStart => exact ⟨0, Nat.zero_le _, rfl, unhide HSET, ⟨rfl, rfl, rfl, Nat.le_refl _, fun _ _ _ => rfl⟩⟩
  case round =>
    obtain ⟨i, hi, rfl, hse, hgr⟩ := hrel
    have hk : ∀ k, k < X.heap.size → k ≠ w3.heap.size → wr.heap[k]? = X.heap[k]? := fun k h1 h2 => hgr.block k h1 (fun e => h2 (Option.some.inj e))
    have hsX := unhide HSX
    have hDw := (unhide HDX).keep (hk g (by omega) (by omega))
    have hBw : Bx wr (w3.heap.size + 1) #[.map (some w3.heap.size)] 118 := (hk _ (by omega) (by omega)).trans (unhide HBOX)
    have HSE := hide hse
    have HGR := hide hgr
    have HDW := hide hDw
    have HKK := hide hk
    by_cases hil : i < O.length
    · obtain ⟨p, hpi⟩ : ∃ p, O[i]? = some p := ⟨_, List.getElem?_eq_getElem hil⟩
      have cp := hDw.get (Nat.zero_le i) hpi
      have gl := hDw.lt
      have cb := hBw.cell 0 rfl
      have bl := hBw.lt
      obtain ⟨hix, _⟩ := unhide HF p (unhide HMEM p (List.mem_of_getElem? hpi))
      have hpw := isx_wf hix (unhide HA _ (unhide HB3)).len
      have hwf : (Lit.int .i64 p).wf = true := WalkArith.wf_i64 (by omega)
      have HKEY := hide (Maps.keyOf_int_mk Tryz.underlying3 hwf)
      have htk : O.take (i + 1) = O.take i ++ [p] := by rw [List.take_add_one, hpi]; rfl
      have HTK := hide htk
      have hil9 : i < maxLen := by unfold maxLen; omega
      clear hse hgr hDw hBw hk hpi hix hwf htk hsX
      go_wp2_with (first
        | (at_mapUpdate
           refine wpList_mapUpdate_own _ rfl _ _ _ 118 rfl 3 119 law3 Tryz.underlying118 (unitElem (H := Unit)) w3.heap.size i _ rfl (unhide HSE) hil9 _ _ _ rfl rfl (unhide HKEY) _ [] unitElem_mk ?_
           intro w5 hown5 hgrow5
           rw [← set_snoc, ← unhide HTK] at hown5
           have HS5 : Hid (SetAt w5 w3.heap.size (i + 1) (O.take (i + 1))) := hown5
           have HG5 := hide ((unhide HGR).trans hgrow5)
           clear hown5 hgrow5))
      go_roundw
      case rel => exact ⟨i + 1, by omega, by go_num, unhide HS5, unhide HG5⟩
      case measure => simp [intOf]; omega
    · have hie : i = O.length := by omega
      subst hie
      have hZw : Bx wr W.heap.size #[.pointer (some ⟨M, 0, none⟩)] 28 := (hk _ (by omega) (by omega)).trans (unhide HZX)
      have hgW : g ≠ W.heap.size := fun e => by
        have h1 : w3.heap[W.heap.size]? = _ := unhide HZ3
        have h2 := (row_ty (unhide HO3) (k := g) rfl).1
        rw [e] at h2
        simp [tyOf, h1] at h2
      have hBwr : Below W.heap.size W wr := (unhide HBX).trans ⟨hgr.os, hgr.tape, hgr.output, hgr.size, fun k hk' => hk k (by omega) (by omega)⟩
      have HDEL := hide (delete_any g vc W.heap.size (w3.heap.size + 1) O (fun p => kindP L p == 3) wr (fun w' => Below W.heap.size W w' ∧ Bx w' W.heap.size #[.pointer (some ⟨M, 0, none⟩)] 28) (fun a b ⟨h1, h2⟩ hg => ⟨h1.trans ⟨hg.os, hg.tape, hg.output, hg.size, fun k hk' => hg.block k (by have := h1.size; omega) (fun e => by cases e; omega)⟩, (hg.block _ h2.lt (fun e => hgW (Option.some.inj e).symm)).trans h2⟩) ⟨hBwr, hZw⟩ (fun w' p ⟨h1, h2⟩ hp => left1_flat W.heap.size (w3.heap.size + 1) (unhide HA w' h1) h2 p (unhide HF p (unhide HMEM p hp)).1 (unhide HWI p (unhide HMEM p hp)).1 (unhide HWI p (unhide HMEM p hp)).2.1 (unhide HWI p (unhide HMEM p hp)).2.2) hDw hol hcv hcm)
      have HBW := hide hBwr
      clear hse hgr hDw hBw hk hZw hBwr hsX
      go_wp2_with (first
        | (go_at_call 76
           refine (unhide HDEL).mono ?_
           rintro e w6 ⟨rfl, hd6, hg6⟩
           have HD6 := hide hd6
           have HG6 := hide hg6
           clear hd6 hg6))
      go_ret
      have hg6 := unhide HG6
      refine ⟨_, rfl, ?_, (unhide HBW).trans ⟨hg6.os, hg6.tape, hg6.output, hg6.size, fun k hk' => hg6.block k (by have := (unhide HBW).size; omega) (fun e => by cases e; omega)⟩⟩
      rw [iv_len, unhide HRP]
      exact (unhide HD6).owns (by omega) hcv (by unfold maxLen; omega)
end Go.Proofs.YticdaphajanbbaaGreatDoor

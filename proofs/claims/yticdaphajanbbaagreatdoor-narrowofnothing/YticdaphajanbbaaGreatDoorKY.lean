/- slices.DeleteFunc under left's function. -/
import Derived.Lib.SliceRun
import Derived.Test.YticdaphajanbbaaGreatDoorKX
namespace Go.Proofs.YticdaphajanbbaaGreatDoor
set_option linter.unusedSimpArgs false
set_option linter.unusedVariables false
set_option maxRecDepth 100000
set_option maxHeartbeats 4000000
open Go.RowKit Go.Shelf

variable {P : Program} {lo M : Nat} {mo : Option Nat} {dv : Value} {L : List Kt} {W : World}
theorem setCells_row (g t : Nat) : ∀ (us : List Value) (o : Nat) (w : World) (cur : Array Value), w.heap[g]? = some (.cells cur t) → ∃ cur' : Array Value, (w.setCells g o us).heap[g]? = some (.cells cur' t) ∧ cur'.size = cur.size ∧ (∀ k, k < o → cur'[k]? = cur[k]?) ∧ w.grownBy (w.setCells g o us) (some g)
  | [], o, w, cur, h => ⟨cur, h, rfl, fun _ _ => rfl, ⟨rfl, rfl, rfl, Nat.le_refl _, fun _ _ _ => rfl⟩⟩
  | u :: us, o, w, cur, h => by
    obtain ⟨cur', h1, h2, h3, h4⟩ := setCells_row g t us (o + 1) (w.setCell ⟨g, o, none⟩ u) (cur.setIfInBounds o u) (heap_setCell_same w g o cur t u h)
    refine ⟨cur', h1, by rw [h2]; simp, fun k hk => ?_, ?_⟩
    · rw [h3 k (by omega)]
      simp [Array.getElem?_setIfInBounds, show o ≠ k by omega]
    · have hg : w.grownBy (w.setCell ⟨g, o, none⟩ u) (some g) := ⟨rfl, rfl, rfl, by simp, fun k hk hn => Below.heap_setCell _ _ _ _ (fun e => hn (by rw [e]))⟩
      exact hg.trans h4
theorem DR.cut {w : World} {g vc : Nat} {xs : List Int} {q : Int → Bool} (h : DR w g vc xs q xs.length) {o : Nat} (ho : (xs.filter fun p => !q p).length ≤ o) (us : List Value) : DR (w.setCells g o us) g vc xs q xs.length ∧ w.grownBy (w.setCells g o us) (some g) := by
  obtain ⟨cur, h1, h2, h3, h4⟩ := h
  obtain ⟨cur', e1, e2, e3, e4⟩ := setCells_row g 3 us o w cur h1
  refine ⟨⟨cur', e1, by omega, fun k x hx => ?_, fun k x hk hx => ?_⟩, e4⟩
  · rw [List.take_length] at hx
    have := (List.getElem?_eq_some_iff.1 hx).1
    rw [e3 k (by omega)]
    exact h3 k x (by rw [List.take_length]; exact hx)
  · have := (List.getElem?_eq_some_iff.1 hx).1
    omega
theorem DR.start {w : World} {g vc : Nat} {xs : List Int} {q : Int → Bool} (h : DR w g vc xs q 0) {i : Nat} (hi : ∀ (k : Nat) (x : Int), k < i → xs[k]? = some x → q x = false) (hl : i ≤ xs.length) : DR w g vc xs q i ∧ (xs.take i).filter (fun p => !q p) = xs.take i := by
  obtain ⟨cur, h1, h2, h3, h4⟩ := h
  have hf : (xs.take i).filter (fun p => !q p) = xs.take i := by
    rw [List.filter_eq_self]
    intro x hx
    obtain ⟨k, hk, rfl⟩ := List.getElem_of_mem hx
    have hk' : k < i := by simp at hk; omega
    rw [hi k _ hk' (by rw [List.getElem_take]; exact List.getElem?_eq_getElem (by omega))]
    rfl
  refine ⟨⟨cur, h1, h2, fun k x hx => ?_, fun k x hk hx => h4 k x (Nat.zero_le _) hx⟩, hf⟩
  rw [hf] at hx
  rw [List.getElem?_take] at hx
  split at hx
  · exact h4 k x (Nat.zero_le _) hx
  · cases hx
theorem delete_any (g vc cA cT : Nat) (xs : List Int) (q : Int → Bool) (W : World) (Gd : World → Prop) (hG : ∀ a b, Gd a → a.grownBy b (some g) → Gd b) (h0 : Gd W)
    (hC : ∀ w' p, Gd w' → p ∈ xs → Calls Tryz.prog 77 #[.int .i64 p, .pointer (some ⟨cA, 0, none⟩), .pointer (some ⟨cT, 0, none⟩)] w' fun e w'' => e = .returned (.bool (q p)) ∧ Below w'.heap.size w' w'')
    (hr : DR W g vc xs q 0) (hl : xs.length ≤ 1000000000) (hc : xs.length ≤ vc) (hcm : vc ≤ 9223372036854775807) :
    Calls Tryz.prog 76 #[.slice (some ⟨g, 0, none⟩) xs.length vc, .func (.func 77) #[] #[.pointer (some ⟨cA, 0, none⟩), .pointer (some ⟨cT, 0, none⟩)]] W fun e w' => e = .returned (.slice (some ⟨g, 0, none⟩) (xs.filter fun p => !q p).length vc) ∧ DR w' g vc xs q xs.length ∧ W.grownBy w' (some g) := by
  have HI := hide (index_any g vc cA cT xs q W Gd hG h0 hC hr hl hc hcm)
  have HG := hide hG
  have H0 := hide h0
  have HC := hide hC
  have HR := hide hr
  clear hG h0 hC hr
  cases hf : xs.findIdx? q with
  | none =>
    have hix : ixP q xs = -1 := by unfold ixP; rw [hf]
    rw [hix] at HI
    have hn : ∀ (k : Nat) (x : Int), k < xs.length → xs[k]? = some x → q x = false := fun k x hk hx => by
      rw [List.findIdx?_eq_none_iff] at hf
      exact hf x (List.mem_of_getElem? hx)
    obtain ⟨hD, he⟩ := (unhide HR).start hn (Nat.le_refl _)
    rw [List.take_length] at he
    have HD := hide hD
    have HE : Hid ((xs.filter fun p => !q p).length = xs.length) := by show _ = _; rw [he]
    clear hf hix hn hD he
    go_enter Tryz.func76, Tryz.ntmps76
    go_wp2_with (first
      | (go_at_call 103
         refine (unhide HI).mono ?_
         rintro e w2 ⟨rfl, hb2⟩))
    go_ret
    refine ⟨by rw [unhide HE]; rfl, (unhide HD).keep (hb2.block g (unhide HD).lt), ⟨hb2.os, hb2.tape, hb2.output, hb2.size, fun k hk _ => hb2.block k hk⟩⟩
  | some i0 =>
    have hix : ixP q xs = (i0 : Int) := by unfold ixP; rw [hf]
    rw [hix] at HI
    rw [List.findIdx?_eq_some_iff_getElem] at hf
    obtain ⟨hil, hqi, hlt⟩ := hf
    have hn : ∀ (k : Nat) (x : Int), k < i0 → xs[k]? = some x → q x = false := fun k x hk hx => by
      have := hlt k hk
      have hxk : xs[k] = x := (List.getElem?_eq_some_iff.1 hx).2
      rw [hxk] at this
      simpa using this
    obtain ⟨hD, he⟩ := (unhide HR).start hn (by omega)
    have hx0 : xs[i0]? = some xs[i0] := List.getElem?_eq_getElem hil
    have hD1 := hD.skip hx0 hqi
    have hlen1 : ((xs.take (i0 + 1)).filter fun p => !q p).length = i0 := by rw [filt_step hx0, if_pos hqi, he]; simp; omega
    have hne : ((i0 : Int) == -1) = false := by simp <;> omega
    have HD1 := hide hD1
    have HL1 := hide hlen1
    clear hix hqi hlt hn hD he hx0 hD1 hlen1
    go_enter Tryz.func76, Tryz.ntmps76
    go_wp2_with (first
      | (go_at_call 103
         refine (unhide HI).mono ?_
         rintro e w2 ⟨rfl, hb2⟩
         have HG2 : Hid (W.grownBy w2 (some g)) := ⟨hb2.os, hb2.tape, hb2.output, hb2.size, fun k hk _ => hb2.block k hk⟩
         have HD2 := hide ((unhide HD1).keep (hb2.block g (unhide HD1).lt))
         clear hb2))
    go_loopw [5, 6] (fun t u wr => ∃ j : Nat, i0 < j ∧ j ≤ xs.length ∧ u = .int .i64 (j : Int) ∧ t = .int .i64 (((xs.take j).filter fun p => !q p).length : Int) ∧ ((xs.take j).filter fun p => !q p).length < j ∧ DR wr g vc xs q j ∧ W.grownBy wr (some g)) (fun _ u _ => xs.length - (intOf u).toNat)
    case atStart => exact ⟨i0 + 1, by omega, by omega, by go_num, by rw [unhide HL1], by rw [unhide HL1]; omega, unhide HD2, unhide HG2⟩
    case round =>
      obtain ⟨j, hj0, hj, rfl, rfl, hlj, hdr, hgr⟩ := hrel
      have HDR := hide hdr
      have HGR := hide hgr
      have hgl := hdr.lt
      obtain ⟨m, hm⟩ : ∃ m, ((xs.take j).filter fun p => !q p).length = m := ⟨_, rfl⟩
      rw [hm] at hlj ⊢
      have HM := hide hm
      by_cases hjl : j < xs.length
      · obtain ⟨x, hx⟩ : ∃ x, xs[j]? = some x := ⟨_, List.getElem?_eq_getElem hjl⟩
        have cj := hdr.get (Nat.le_refl j) hx
        have HGd : Hid (Gd wr) := unhide HG _ _ (unhide H0) hgr
        have HX := hide hx
        clear hx hdr hgr hm
        cases hq : q x with
        | true =>
          go_wp2_with (first
            | (go_at_call 77
               refine (unhide HC wr x (unhide HGd) (List.mem_of_getElem? (unhide HX))).mono ?_
               rw [hq]
               rintro e w3 ⟨rfl, hb3⟩
               have HG3 : Hid (W.grownBy w3 (some g)) := (unhide HGR).trans ⟨hb3.os, hb3.tape, hb3.output, hb3.size, fun k hk _ => hb3.block k hk⟩
               have HD3 := hide (((unhide HDR).keep (hb3.block g (unhide HDR).lt)).skip (unhide HX) hq)
               clear hb3))
          have HL3 : Hid (((xs.take (j + 1)).filter fun p => !q p).length = m) := by show _ = _; rw [filt_step (unhide HX), if_pos hq]; exact unhide HM
          go_roundw
          case rel => exact ⟨j + 1, by omega, by omega, by go_num, by rw [unhide HL3], by rw [unhide HL3]; omega, unhide HD3, unhide HG3⟩
          case measure => simp [intOf]; omega
        | false =>
          go_wp2_with (first
            | (go_at_call 77
               refine (unhide HC wr x (unhide HGd) (List.mem_of_getElem? (unhide HX))).mono ?_
               rw [hq]
               rintro e w3 ⟨rfl, hb3⟩
               have hd3 := (unhide HDR).keep (hb3.block g (unhide HDR).lt)
               have HG3 : Hid (W.grownBy w3 (some g)) := (unhide HGR).trans ⟨hb3.os, hb3.tape, hb3.output, hb3.size, fun k hk _ => hb3.block k hk⟩
               have HD3 := hide hd3
               obtain ⟨vm, cm⟩ := hd3.there (k := m) (by omega)
               have fm := hd3.free m
               have l3 := hd3.lt
               clear hb3 hd3))
          have HL3 : Hid (((xs.take (j + 1)).filter fun p => !q p).length = m + 1) := by show _ = _; rw [filt_step (unhide HX), if_neg (by rw [hq]; simp)]; simp [unhide HM]
          have hdp := (unhide HD3).put (unhide HX) hq hc
          rw [unhide HM] at hdp
          have HDP := hide hdp
          have HGP : Hid (W.grownBy (w3.setCell ⟨g, m, none⟩ (.int .i64 x)) (some g)) := (unhide HG3).trans ⟨rfl, rfl, rfl, by simp, fun k hk hn => Below.heap_setCell _ _ _ _ (fun e => hn (by rw [e]))⟩
          clear hdp
          go_roundw
          case rel => exact ⟨j + 1, by omega, by omega, by go_num, by rw [unhide HL3]; go_num, by rw [unhide HL3]; omega, unhide HDP, unhide HGP⟩
          case measure => simp [intOf]; omega
      · have hje : j = xs.length := by omega
        subst hje
        have hcl : ∀ ty, (Builtin.clear_ #[32] ty #[.slice (some ⟨g, 0 + m, none⟩) (xs.length - m) (vc - m)]).run Tryz.prog wr = .ok (.tuple #[]) (wr.setCells g (0 + m) (List.replicate (xs.length - m) (.int .i64 0))) :=
          fun ty => Lib.run_clear_slice wr 32 3 ty (.int .i64 0) Tryz.underlying32 zero3 rfl rfl g (0 + m) _ _ (by omega) (fun k hk => by obtain ⟨v, hv⟩ := hdr.there (k := 0 + m + k) (by omega); rw [hv]; rfl) (fun k hk => hdr.free _)
        simp only [Nat.zero_add] at hcl
        have hmf : (xs.filter fun p => !q p).length = m := by rw [List.take_length] at hm; exact hm
        obtain ⟨hc1, hc2⟩ := hdr.cut (o := m) (by omega) (List.replicate (xs.length - m) (.int .i64 0))
        have HC1 := hide hc1
        have HC2 := hide ((unhide HGR).trans hc2)
        have HMF := hide hmf
        have hmv : m < vc := by omega
        have hvne : ¬ vc = m := by omega
        clear hdr hgr hm hc1 hc2 hmf
        go_wp2
        go_ret
        exact ⟨by rw [unhide HMF]; rfl, unhide HC1, unhide HC2⟩
end Go.Proofs.YticdaphajanbbaaGreatDoor

/- The law HeapRoom, walked. -/
import Derived.LoopTactic
import Derived.LoopN
import Derived.Deep.RegionHeld3
import Derived.Laws.Shifts
import Derived.Test.YtojbkohgngnlaabDoorHO
namespace Go.Proofs.YtojbkohgngnlaabDoor
set_option linter.unusedSimpArgs false
set_option linter.unusedVariables false
set_option maxRecDepth 100000
set_option maxHeartbeats 4000000
open Go.RowKit Go.Shelf

theorem room_big (m : Int) (a : Option Addr) (n c : Nat) (h : m < 0 ∨ 300 < m ∨ 300 < n) : Ret 3 #[.int .i64 m, .slice a n c] (.bool true) := by
  intro W
  have HK := hide known_any
  by_cases h1 : m < 0
  · clear h
    go_enter Tryd.func3, Tryd.ntmps3
    go_wp2_with (go_at_call 4; refine (unhide HK _).mono ?_; rintro e w2 ⟨rfl, hb2⟩)
    go_ret
    exact ⟨rfl, hb2⟩
  · by_cases h2 : 300 < m
    · clear h
      go_enter Tryd.func3, Tryd.ntmps3
      go_wp2_with (go_at_call 4; refine (unhide HK _).mono ?_; rintro e w2 ⟨rfl, hb2⟩)
      go_ret
      exact ⟨rfl, hb2⟩
    · have h3 : (300 : Int) < n := by omega
      clear h
      go_enter Tryd.func3, Tryd.ntmps3
      go_wp2_with (go_at_call 4; refine (unhide HK _).mono ?_; rintro e w2 ⟨rfl, hb2⟩)
      go_ret
      exact ⟨rfl, hb2⟩
/-- The heap between two rounds. -/
structure RH (W : World) (m : Nat) (A : World) (i : Nat) (l : Ly) (H : PH) : Prop where
  h : HAt A l W.heap.size H
  bel : Below W.heap.size W A
  lab : ∀ k, k < W.heap.size → l.L k = 0
  room : H.room = m
  used : H.used = min i m
  cells : cellsH H.ths ≤ H.used
theorem RH.next {W : World} {m : Nat} {A A' : World} {i : Nat} {l l' : Ly} {H : PH} (h : RH W m A i l H) (hf : H.used < H.room) (k n : Int) (h1 : HAt A' l' W.heap.size (H.make k n)) (h2 : St l.L l'.L A A') : RH W m A' (i + 1) l' (H.make k n) :=
  ⟨h1, h.bel.trans (h2.below h.bel.size h.lab), fun q hq => (h2.ext q (Nat.lt_of_lt_of_le hq h.bel.size)).trans (h.lab q hq), h.room, by
    have h3 := h.used
    have h4 := h.room
    show H.used + 1 = _
    omega, by
    have := h.cells
    show cellsH (H.ths ++ [_]) ≤ H.used + 1
    simp [cellsH, cellsT] at this ⊢
    omega⟩
theorem RH.stay {W : World} {m : Nat} {A A' : World} {i : Nat} {l : Ly} {H : PH} (h : RH W m A i l H) (hf : H.used = H.room) (k : Below A.heap.size A A') : RH W m A' (i + 1) l H :=
  ⟨h.h.below k, h.bel.trans (k.mono h.bel.size), h.lab, h.room, by
    have h3 := h.used
    have h4 := h.room
    omega, h.cells⟩
theorem room_main (W : World) (m : Nat) (a : Option Addr) (n c : Nat) (hI : IntsAt W a n) (h300 : n ≤ 300) (hm : m ≤ 300) : Calls Tryd.prog 3 #[.int .i64 m, .slice a n c] W fun e w' => e = .returned (.bool true) ∧ Below W.heap.size W w' := by
  obtain ⟨_, zs, hzl, hzs⟩ := hI
  subst hzl
  have hn := New_ok m (by omega) W
  obtain ⟨w1, hw1, h1⟩ : ∃ w1, W.alloc (.cells #[.int .i64 m, .int .i64 0, .slice none 0 0] 39) = w1 ∧ RH W m w1 0 (newLy W.heap.size) ⟨m, 0, []⟩ := ⟨_, rfl, new_at W m (by omega), below_one _ _, fun k hk => by simp [newLy]; omega, rfl, by simp, Nat.le_refl _⟩
  rw [hw1] at hn
  have HN := hide hn
  have H1 := hide h1
  have HK := hide known_any
  have HZ := hide hzs
  unfold ptr at HN
  clear hn hw1 h1 hzs
  have hm1 : ¬ ((m : Int) < 0) := by omega
  have hm2 : ¬ ((300 : Int) < m) := by omega
  have hN2 : ¬ ((300 : Int) < zs.length) := by omega
  go_enter Tryd.func3, Tryd.ntmps3
  go_wp2_with (first
    | (go_at_call 5; refine (unhide HN).mono ?_; rintro e w1' ⟨rfl, hw⟩; have hw' := hw.symm; subst hw'; clear hw))
  go_loopw [7] (fun t wr => ∃ i : Nat, i ≤ zs.length ∧ t = .int .i64 i ∧ ∃ l H, RH W m wr i l H) (fun t _ => zs.length - (intOf t).toNat)
  case atStart => exact ⟨0, Nat.zero_le _, rfl, _, _, unhide H1⟩
  case round =>
    obtain ⟨i, hi, rfl, l, H, hv⟩ := hrel
    have HV := hide hv
    obtain ⟨u, hu⟩ : ∃ u, H.used = u := ⟨_, rfl⟩
    have HU : Hid (∀ A l H, HAt A l W.heap.size H → Calls Tryd.prog 6 #[.pointer (some ⟨W.heap.size, 0, none⟩)] A fun e w' => e = .returned (.int .i64 H.used) ∧ w' = A) := fun A l H h => Used_any h
    by_cases hlt : i < zs.length
    · have hlt' : (i : Int) < zs.length := by omega
      obtain ⟨z, hz⟩ : ∃ z, zs[i]? = some z := ⟨_, List.getElem?_eq_getElem hlt⟩
      obtain ⟨z1, z2, ad, rfl, hal, hcell⟩ := unhide HZ i z hz
      have hab : (ad.add i).block = ad.block := by unfold Addr.add; split <;> rfl
      have hc := (hv.bel.cell (p := ad.add i) (by rw [hab]; exact hal)).trans hcell
      have hc0 := hcell
      clear hz hv
      go_wp2_with (first
        | (go_at_call 6; refine (unhide HU wr l H (unhide HV).h).mono ?_; rintro e w5 ⟨rfl, hw5⟩; have hw5' := hw5.symm; subst hw5'; clear hw5))
      by_cases hf : H.used < H.room
      · have HMK : Hid (∀ k n, Calls Tryd.prog 7 #[.pointer (some ⟨W.heap.size, 0, none⟩), .int .i64 k, .int .i64 n] wr.drew fun e w' => e = .returned (.tuple #[.int .i64 H.ths.length, .int .i64 0]) ∧ ∃ l' H', RH W m w' (i + 1) l' H' ∧ H'.used = u + 1) := fun k n => by
          have hd : Below wr.heap.size wr wr.drew := (Below.refl _ _).drew
          refine (Make_ok ((unhide HV).h.below hd) (unhide HV).cells hf k n).mono ?_
          rintro e w' ⟨rfl, l', q1, q2⟩
          exact ⟨rfl, l', _, (unhide HV).next hf k n q1 ((St.of_below hd).trans q2), by show H.used + 1 = u + 1; rw [hu]⟩
        have HC := hide (fun w' (hb : Below W.heap.size W w') => (hb.cell (p := ad.add i) (by rw [hab]; exact hal)).trans hc0)
        have HVB := hide (unhide HV).bel
        have hum : (u : Int) < m := by have := (unhide HV).room; omega
        have hu300 : (u : Int) ≤ 300 := by omega
        have HHF := hide hf
        clear hf
        go_region_held3 (fun w' => w'.cell? (ad.add i) = some (.int .i64 z))
          (with_reducible first
            | assumption
            | exact unhide HC _ (unhide HVB)
            | exact unhide HC _ (unhide HVB).drew
            | exact unhide HC _ (unhide HR).bel)
          ((go_at_call 7
            refine (unhide HMK _ _).mono ?_
            rintro e w6 ⟨rfl, l6, H6, h6, u6⟩
            have HR := hide h6
            have HU6 : Hid (Calls Tryd.prog 6 #[.pointer (some ⟨W.heap.size, 0, none⟩)] w6 fun e w' => e = .returned (.int .i64 ((u : Int) + 1)) ∧ w' = w6) := by
              have h7 := unhide HU w6 l6 H6 h6.h
              rw [show ((H6.used : Int)) = (u : Int) + 1 from by omega] at h7
              exact h7
            clear h6 u6))
        all_goals (
          go_wp2_with (first
            | (go_at_call 6; refine (unhide HU6).mono ?_; rintro e w7 ⟨rfl, hw7⟩; have hw7' := hw7.symm; subst hw7'; clear hw7))
          exact ⟨⟨i + 1, by omega, by congr 1, l6, H6, unhide HR⟩, by simp [intOf]; omega⟩)
      · have hfe : H.used = H.room := by have := (unhide HV).h.used; omega
        have HMK : Hid (∀ k n, Calls Tryd.prog 7 #[.pointer (some ⟨W.heap.size, 0, none⟩), .int .i64 k, .int .i64 n] wr.drew fun e w' => e = .returned (.tuple #[.int .i64 (-1), .int .i64 3]) ∧ RH W m w' (i + 1) l H) := fun k n => by
          have hd : Below wr.heap.size wr wr.drew := (Below.refl _ _).drew
          refine (Make_full ((unhide HV).h.below hd) hfe k n).mono ?_
          rintro e w' ⟨rfl, hb⟩
          exact ⟨rfl, (unhide HV).stay hfe (hd.trans hb)⟩
        have HC := hide (fun w' (hb : Below W.heap.size W w') => (hb.cell (p := ad.add i) (by rw [hab]; exact hal)).trans hc0)
        have HVB := hide (unhide HV).bel
        have hum : ¬ ((u : Int) < m) := by have := (unhide HV).room; omega
        clear hf hfe
        go_region_held3 (fun w' => w'.cell? (ad.add i) = some (.int .i64 z))
          (with_reducible first
            | assumption
            | exact unhide HC _ (unhide HVB)
            | exact unhide HC _ (unhide HVB).drew
            | exact unhide HC _ (unhide HR).bel)
          ((go_at_call 7
            refine (unhide HMK _ _).mono ?_
            rintro e w6 ⟨rfl, h6⟩
            have HR := hide h6
            have HU6 : Hid (Calls Tryd.prog 6 #[.pointer (some ⟨W.heap.size, 0, none⟩)] w6 fun e w' => e = .returned (.int .i64 (u : Int)) ∧ w' = w6) := by
              have h7 := unhide HU w6 l H h6.h
              rw [hu] at h7
              exact h7
            clear h6))
        all_goals (
          go_wp2_with (first
            | (go_at_call 6; refine (unhide HU6).mono ?_; rintro e w7 ⟨rfl, hw7⟩; have hw7' := hw7.symm; subst hw7'; clear hw7))
          exact ⟨⟨i + 1, by omega, by congr 1, l, H, unhide HR⟩, by simp [intOf]; omega⟩)
    · have e : i = zs.length := by omega
      subst e
      have hmin : (H.used : Int) = min (m : Int) (zs.length : Int) := by have := hv.used; omega
      clear hlt hv hu
      have HU6 : Hid (Calls Tryd.prog 6 #[.pointer (some ⟨W.heap.size, 0, none⟩)] wr fun e w' => e = .returned (.int .i64 (min (m : Int) (zs.length : Int))) ∧ w' = wr) := by
        have h7 := unhide HU wr l H (unhide HV).h
        rw [hmin] at h7
        exact h7
      clear hmin
      go_wp2_with (first
        | (go_at_call 6; refine (unhide HU6).mono ?_; rintro e w7 ⟨rfl, hw7⟩; have hw7' := hw7.symm; subst hw7'; clear hw7)
        | (go_at_call 4; refine (unhide HK _).mono ?_; rintro e w8 ⟨rfl, hb8⟩; have HB8 := hide hb8; clear hb8))
      go_ret
      exact ⟨rfl, (unhide HV).bel.trans ((unhide HB8).mono (unhide HV).bel.size)⟩
theorem heapRoom_any (m : Int) (a : Option Addr) (n c : Nat) (W : World) (hI : IntsAt W a n) : Calls Tryd.prog 3 #[.int .i64 m, .slice a n c] W fun e w' => e = .returned (.bool true) ∧ Below W.heap.size W w' := by
  by_cases h : m < 0 ∨ 300 < m ∨ 300 < n
  · exact room_big m a n c h W
  · have := room_main W m.toNat a n c hI (by omega) (by omega)
    rwa [Int.toNat_of_nonneg (by omega)] at this
theorem cells3 : Tryd.prog.cellsOf 3 = 1 := by kernel_rfl
end Go.Proofs.YtojbkohgngnlaabDoor

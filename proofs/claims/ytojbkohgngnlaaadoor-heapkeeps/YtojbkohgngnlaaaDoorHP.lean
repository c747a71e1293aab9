/- The law HeapArrays, walked. -/
import Derived.LoopTactic
import Derived.LoopN
import Derived.Test.YtojbkohgngnlaaaDoorHO
import Derived.Test.YtojbkohgngnlaaaDoorHN
namespace Go.Proofs.YtojbkohgngnlaaaDoor
set_option linter.unusedSimpArgs false
set_option linter.unusedVariables false
set_option maxRecDepth 100000
set_option maxHeartbeats 4000000
open Go.RowKit Go.Shelf

theorem arrays_big (a : Option Addr) (n c : Nat) (h : 200 < n) : Ret 4 #[.slice a n c] (.bool true) := by
  intro W
  obtain ⟨w1, hn, _, hb1, _⟩ := New5000 W
  have HN := hide hn
  have HB := hide hb1
  have HK := hide known_any
  have h2 : (200 : Int) < n := by omega
  unfold ptr at HN
  clear hn hb1
  go_enter Tryd.func4, Tryd.ntmps4
  go_wp2_with (first
    | (go_at_call 6; refine (unhide HN).mono ?_; rintro e w1' ⟨rfl, hw⟩; have hw' := hw.symm; subst hw'; clear hw)
    | (go_at_call 7; refine (unhide HK _).mono ?_; rintro e w2 ⟨rfl, hb2⟩; have HB2 := hide (Below.up (unhide HB) hb2); clear hb2))
  go_ret
  exact ⟨rfl, unhide HB2⟩
theorem arrays_main (W : World) (a : Option Addr) (n c : Nat) (hI : IntsAt W a n) (h200 : n ≤ 200) : Calls Tryd.prog 4 #[.slice a n c] W fun e w' => e = .returned (.bool true) ∧ Below W.heap.size W w' := by
  obtain ⟨_, zs, hzl, hzs⟩ := hI
  subst hzl
  obtain ⟨w1, hn, hh1, hb1, hl1⟩ := New5000 W
  have HN := hide hn
  have HB := hide hb1
  have HL := hide hl1
  have HK := hide known_any
  have HZ := hide hzs
  have HMK : Hid (Calls Tryd.prog 8 #[.pointer (some ⟨W.heap.size, 0, none⟩), .int .i64 2, .int .i64 (-1)] w1 fun e w' => e = .returned (.tuple #[.int .i64 0, .int .i64 0]) ∧ ∃ l', HAt w' l' W.heap.size (AH zs 0) ∧ St (newLy W.heap.size).L l'.L w1 w') := by
    have := Make_ok hh1 (by decide) (by decide) 2 (-1)
    rw [AH_make zs] at this
    exact this
  have HPU : Hid (∀ (i : Nat) (z : Int) (l : Ly) (w : World), zs[i]? = some z → HAt w l W.heap.size (AH zs i) → Calls Tryd.prog 12 #[.pointer (some ⟨W.heap.size, 0, none⟩), .int .i64 0, .agg #[.int .i64 3, .int .i64 (z.tmod 100000), .string ⟨#[]⟩]] w fun e w' => e = .returned (.tuple #[.int .i64 ((i : Int) + 1), .int .i64 0]) ∧ ∃ l', HAt w' l' W.heap.size (AH zs (i + 1)) ∧ St l.L l'.L w w') := fun i z l w hz h => by
    have hil := (List.getElem?_eq_some_iff.1 hz).1
    have := Push_ok h (AH_cells zs i) (by show 1 + i < 5000; omega) 0 (AT zs i) rfl rfl ⟨3, z.tmod 100000, ⟨#[]⟩⟩ (Nat.zero_le _)
    rw [AH_lay zs i z hz, AT_len zs i (by omega)] at this
    refine this.mono ?_
    rintro e w' ⟨rfl, l', q1, q2, _⟩
    exact ⟨rfl, l', q1, q2⟩
  have HAT1 : Hid (∀ (k : Nat) (z : Int) (l : Ly) (w : World), zs[k]? = some z → HAt w l W.heap.size (AH zs zs.length) → Calls Tryd.prog 13 #[.pointer (some ⟨W.heap.size, 0, none⟩), .agg #[.int .i64 5, .int .i64 0, .string ⟨#[]⟩], .agg #[.int .i64 3, .int .i64 k, .string ⟨#[]⟩]] w fun e w' => e = .returned (.tuple #[.agg #[.int .i64 3, .int .i64 (z.tmod 100000), .string ByteArray.empty], .string ⟨#[]⟩, .int .i64 0]) ∧ Below w.heap.size w w') := fun k z l w hz h => At_arr h 0 (AT zs zs.length) rfl rfl k _ _ _ (AT_at zs h200 k z hz) (by decide)
  have HAT0 : Hid (∀ (k : Int) (l : Ly) (w : World), -1 ≤ k → k ≤ zs.length → (k < 0 ∨ zs.length ≤ k) → HAt w l W.heap.size (AH zs zs.length) → Calls Tryd.prog 13 #[.pointer (some ⟨W.heap.size, 0, none⟩), .agg #[.int .i64 5, .int .i64 0, .string ⟨#[]⟩], .agg #[.int .i64 3, .int .i64 k, .string ⟨#[]⟩]] w fun e w' => e = .returned (.tuple #[.agg #[.int .i64 0, .int .i64 0, .string ByteArray.empty], .string ⟨#[]⟩, .int .i64 0]) ∧ Below w.heap.size w w') := fun k l w h1 h2 h3 h => At_arr h 0 (AT zs zs.length) rfl rfl k _ _ _ (AT_out zs h200 k h1 h2 h3) (by decide)
  have HGT : Hid (∀ (l : Ly) (w : World), HAt w l W.heap.size (AH zs zs.length) → Calls Tryd.prog 10 #[.pointer (some ⟨W.heap.size, 0, none⟩), .agg #[.int .i64 5, .int .i64 0, .string ⟨#[]⟩], .string ⟨#[108, 101, 110, 103, 116, 104]⟩] w fun e w' => e = .returned (.tuple #[.agg #[.int .i64 3, .int .i64 zs.length, .string ByteArray.empty], .string ⟨#[]⟩, .int .i64 0]) ∧ Below w.heap.size w w') := fun l w h => Get_2 h 0 (AT zs zs.length) rfl rfl ⟨#[108, 101, 110, 103, 116, 104]⟩ (by decide) 3 zs.length ByteArray.empty true (by
      have e1 : isLen ⟨#[108, 101, 110, 103, 116, 104]⟩ = true := by simp [isLen, ByteArray.toList_eq]
      unfold fndP
      rw [show (AH zs zs.length).ths[0]? = some (AT zs zs.length) from rfl]
      simp [AT, e1]) (by
      have e1 : isLen ⟨#[108, 101, 110, 103, 116, 104]⟩ = true := by simp [isLen, ByteArray.toList_eq]
      unfold fndP
      rw [show (AH zs zs.length).ths[0]? = some (AT zs zs.length) from rfl]
      simp [AT, e1]) (by decide) ⟨#[]⟩
  have HLN : Hid (∀ (l : Ly) (w : World), HAt w l W.heap.size (AH zs zs.length) → Calls Tryd.prog 14 #[.pointer (some ⟨W.heap.size, 0, none⟩), .int .i64 0] w fun e w' => e = .returned (.int .i64 zs.length) ∧ Below w.heap.size w w') := fun l w h => by
    have := Len_arr h 0 (AT zs zs.length) rfl rfl
    rw [AT_len zs _ (Nat.le_refl _)] at this
    exact this
  have HUS : Hid (∀ (l : Ly) (w : World), HAt w l W.heap.size (AH zs zs.length) → Calls Tryd.prog 15 #[.pointer (some ⟨W.heap.size, 0, none⟩)] w fun e w' => e = .returned (.int .i64 ((zs.length : Int) + 1)) ∧ w' = w) := fun l w h => by
    have := Used_any h
    rw [show ((AH zs zs.length).used : Int) = (zs.length : Int) + 1 from by show ((1 + zs.length : Nat) : Int) = _; omega] at this
    exact this
  have hW := HB
  unfold ptr at HN
  clear hn hh1 hb1 hl1 hzs
  have hN2 : ¬ ((200 : Int) < zs.length) := by omega
  go_enter Tryd.func4, Tryd.ntmps4
  go_wp2_with (first
    | (go_at_call 6; refine (unhide HN).mono ?_; rintro e w1' ⟨rfl, hw⟩; have hw' := hw.symm; subst hw'; clear hw)
    | (go_at_call 8
       refine (unhide HMK).mono ?_
       rintro e w2 ⟨rfl, l2, h2, s2⟩
       obtain ⟨w3, hw3, ⟨na, nb, nc, o0, o1, o2⟩, hx3, hb3, hz3⟩ := new3 w2 (.int .i64 0) (.int .i64 0) (.string ⟨#[]⟩) 32
       have HX3 := hide hx3
       have HB3 := hide hb3
       have H2 := hide h2
       have S2 := hide s2
       clear h2 s2 hx3 hb3 hz3))
  have hp3 : Below w2.heap.size w2 (put3 w3 w2.heap.size (.int .i64 5) (.int .i64 0) (.string ⟨#[]⟩)) := below_put3 (unhide HB3) (Nat.le_refl _) _ _ _
  have hsw := (unhide S2).size
  have hb1 := (unhide HB).size
  have v3 : Inv W W.heap.size w2.heap.size (Vc 5 0 ⟨#[]⟩) (put3 w3 w2.heap.size (.int .i64 5) (.int .i64 0) (.string ⟨#[]⟩)) l2 (AH zs 0) :=
    ⟨(unhide H2).below hp3, ((unhide HB).trans ((unhide S2).below hb1 (unhide HL))).trans (hp3.mono (Nat.le_trans hb1 hsw)), fun k hk => ((unhide S2).ext k (Nat.lt_of_lt_of_le hk hb1)).trans (unhide HL k hk), Bx.puts (unhide HX3) _ _ _, (unhide H2).fresh _ (Nat.le_refl _)⟩
  obtain ⟨w4, hw4⟩ : ∃ w4, ((w3.setCell ⟨w2.heap.size, 0, none⟩ (.int .i64 5)).setCell ⟨w2.heap.size, 1, none⟩ (.int .i64 0)).setCell ⟨w2.heap.size, 2, none⟩ (.string ⟨#[]⟩) = w4 := ⟨_, rfl⟩
  have V4 : Hid (Inv W W.heap.size w2.heap.size (Vc 5 0 ⟨#[]⟩) w4 l2 (AH zs 0)) := by rw [← hw4]; exact v3
  rw [hw4]
  clear hp3 hsw hb1 v3 hw4 na nb nc o0 o1 o2
  go_loopw [8] (fun t wr => ∃ i : Nat, i ≤ zs.length ∧ t = .int .i64 i ∧ ∃ l, Inv W W.heap.size w2.heap.size (Vc 5 0 ⟨#[]⟩) wr l (AH zs i)) (fun t _ => zs.length - (intOf t).toNat)
  case atStart => exact ⟨0, Nat.zero_le _, rfl, l2, unhide V4⟩
  case round =>
    obtain ⟨i, hi, rfl, l, hv⟩ := hrel
    have HV := hide hv
    clear hv
    by_cases hlt : i < zs.length
    · have hlt' : (i : Int) < zs.length := by omega
      obtain ⟨z, hz⟩ : ∃ z, zs[i]? = some z := ⟨_, List.getElem?_eq_getElem hlt⟩
      obtain ⟨z1, z2, ad, rfl, hal, hcell⟩ := unhide HZ i z hz
      have hc := ((unhide HV).bel.cell (p := ad.add i) (by
        have hab : (ad.add i).block = ad.block := by unfold Addr.add; split <;> rfl
        rw [hab]; exact hal)).trans hcell
      have HZI := hide hz
      clear hz hcell
      go_wp2_with (first
        | (go_at_call 12; refine (unhide HPU i z l _ (unhide HZI) (unhide HV).h).mono ?_; rintro e w5 ⟨rfl, l5, h5, s5⟩; have HV5 := hide ((unhide HV).step h5 s5); clear h5 s5))
      exact ⟨⟨i + 1, by omega, by congr 1, l5, unhide HV5⟩, by simp [intOf]; omega⟩
    · have e : i = zs.length := by omega
      subst e
      clear hlt HPU HMK
      go_wp2
      go_loopw [11] (fun t wr => ∃ k : Int, -1 ≤ k ∧ k ≤ (zs.length : Int) + 1 ∧ t = .int .i64 k ∧ Inv W W.heap.size w2.heap.size (Vc 5 0 ⟨#[]⟩) wr l (AH zs zs.length)) (fun t _ => (zs.length + 1 - intOf t).toNat)
      case atStart => exact ⟨-1, by omega, by omega, rfl, unhide HV⟩
      case round =>
        obtain ⟨k, hk1, hk2, rfl, hv⟩ := hrel
        have HV := hide hv
        obtain ⟨f0, f1, f2, _, _, _, _⟩ := (show Bv wr w2.heap.size 5 0 ⟨#[]⟩ from hv.ref).all
        clear hv
        by_cases hlt : k ≤ zs.length
        · by_cases hkn : k < 0
          · go_wp2_with (first
              | (go_at_call 13
                 refine (unhide HAT0 k l _ hk1 hlt (.inl hkn) (unhide HV).h).mono ?_
                 rintro e w5 ⟨rfl, hb5⟩
                 obtain ⟨w6, hw6, ⟨na, nb, nc, o0, o1, o2⟩, hx6, hb6, hz6⟩ := new3 w5 (.int .i64 0) (.int .i64 0) (.string ⟨#[]⟩) 32
                 obtain ⟨w7, hw7, e1, e2, e3, e4⟩ := over w6 w5.heap.size 0 0 0 0 ⟨#[]⟩ ByteArray.empty (show Bv w6 w5.heap.size 0 0 ⟨#[]⟩ from hx6)
                 have hb7 := e2 _ _ hb6 (Nat.le_refl _)
                 obtain ⟨w8, hw8, ⟨pa, pb, pc, r0, r1, r2⟩, hx8, hb8, hz8⟩ := new3 w7 (.int .i64 0) (.int .i64 0) (.string ⟨#[]⟩) 32
                 have hne := Nat.ne_of_lt (Bx.lt e1)
                 obtain ⟨w9, hw9, g1, g2, g3, g4⟩ := over w8 w7.heap.size 0 0 0 0 ⟨#[]⟩ ⟨#[]⟩ (show Bv w8 w7.heap.size 0 0 ⟨#[]⟩ from hx8)
                 have hv9 := g3 _ _ _ _ (e1.below hb8 (Bx.lt e1)) hne
                 obtain ⟨q0, q1, q2, _, _, _, _⟩ := hv9.all
                 obtain ⟨y0, y1, y2, t0, t1, t2, _⟩ := g1.all
                 have hne' := hne.symm
                 have HV7 := hide (((unhide HV).below hb5).below hb7)
                 have HB9 := hide (g2 _ _ hb8 (Nat.le_refl _))
                 clear hb5 hx6 hb6 hz6 e1 e2 e3 e4 hb7 hx8 hb8 hz8 hv9 g1 g2 g3 g4))
            exact ⟨⟨k + 1, by omega, by omega, rfl, (unhide HV7).below (unhide HB9)⟩, by simp [intOf]; omega⟩
          · by_cases hke : k = zs.length
            · subst hke
              have HGE := hide (Int.le_refl (zs.length : Int))
              have HK1 := hide hk1
              clear hlt hk1 hk2 hkn
              go_wp2_with (first
                | (go_at_call 13
                   refine (unhide HAT0 (zs.length : Int) l _ (unhide HK1) (unhide HGE) (.inr (unhide HGE)) (unhide HV).h).mono ?_
                   rintro e w5 ⟨rfl, hb5⟩
                   obtain ⟨w6, hw6, ⟨na, nb, nc, o0, o1, o2⟩, hx6, hb6, hz6⟩ := new3 w5 (.int .i64 0) (.int .i64 0) (.string ⟨#[]⟩) 32
                   obtain ⟨w7, hw7, e1, e2, e3, e4⟩ := over w6 w5.heap.size 0 0 0 0 ⟨#[]⟩ ByteArray.empty (show Bv w6 w5.heap.size 0 0 ⟨#[]⟩ from hx6)
                   have hb7 := e2 _ _ hb6 (Nat.le_refl _)
                   obtain ⟨w8, hw8, ⟨pa, pb, pc, r0, r1, r2⟩, hx8, hb8, hz8⟩ := new3 w7 (.int .i64 0) (.int .i64 0) (.string ⟨#[]⟩) 32
                   have hne := Nat.ne_of_lt (Bx.lt e1)
                   obtain ⟨w9, hw9, g1, g2, g3, g4⟩ := over w8 w7.heap.size 0 0 0 0 ⟨#[]⟩ ⟨#[]⟩ (show Bv w8 w7.heap.size 0 0 ⟨#[]⟩ from hx8)
                   have hv9 := g3 _ _ _ _ (e1.below hb8 (Bx.lt e1)) hne
                   obtain ⟨q0, q1, q2, _, _, _, _⟩ := hv9.all
                   obtain ⟨y0, y1, y2, t0, t1, t2, _⟩ := g1.all
                   have hne' := hne.symm
                   have HV7 := hide (((unhide HV).below hb5).below hb7)
                   have HB9 := hide (g2 _ _ hb8 (Nat.le_refl _))
                   clear hb5 hx6 hb6 hz6 e1 e2 e3 e4 hb7 hx8 hb8 hz8 hv9 g1 g2 g3 g4))
              exact ⟨⟨(zs.length : Int) + 1, by omega, by omega, rfl, (unhide HV7).below (unhide HB9)⟩, by simp [intOf]⟩
            · obtain ⟨j, rfl⟩ : ∃ j : Nat, k = j := ⟨k.toNat, by omega⟩
              have hjl : j < zs.length := by omega
              have hjl' : (j : Int) < zs.length := by omega
              obtain ⟨z, hz⟩ : ∃ z, zs[j]? = some z := ⟨_, List.getElem?_eq_getElem hjl⟩
              obtain ⟨z1, z2, ad, rfl, hal, hcell⟩ := unhide HZ j z hz
              have hab : (ad.add j).block = ad.block := by unfold Addr.add; split <;> rfl
              have HCELL := hide (fun w' (hb' : Below W.heap.size W w') => (hb'.cell (p := ad.add j) (by rw [hab]; exact hal)).trans hcell)
              have HZI := hide hz
              clear hz hcell hke hkn
              go_wp2_with (first
                | (go_at_call 13
                   refine (unhide HAT1 j z l _ (unhide HZI) (unhide HV).h).mono ?_
                   rintro e w5 ⟨rfl, hb5⟩
                   obtain ⟨w6, hw6, ⟨na, nb, nc, o0, o1, o2⟩, hx6, hb6, hz6⟩ := new3 w5 (.int .i64 0) (.int .i64 0) (.string ⟨#[]⟩) 32
                   obtain ⟨w7, hw7, e1, e2, e3, e4⟩ := over w6 w5.heap.size 0 0 3 (z.tmod 100000) ⟨#[]⟩ ByteArray.empty (show Bv w6 w5.heap.size 0 0 ⟨#[]⟩ from hx6)
                   have hb7 := e2 _ _ hb6 (Nat.le_refl _)
                   obtain ⟨w8, hw8, ⟨pa, pb, pc, r0, r1, r2⟩, hx8, hb8, hz8⟩ := new3 w7 (.int .i64 0) (.int .i64 0) (.string ⟨#[]⟩) 32
                   have hne := Nat.ne_of_lt (Bx.lt e1)
                   obtain ⟨w9, hw9, g1, g2, g3, g4⟩ := over w8 w7.heap.size 0 0 0 0 ⟨#[]⟩ ⟨#[]⟩ (show Bv w8 w7.heap.size 0 0 ⟨#[]⟩ from hx8)
                   have hv9 := g3 _ _ _ _ (e1.below hb8 (Bx.lt e1)) hne
                   obtain ⟨q0, q1, q2, _, _, _, _⟩ := hv9.all
                   obtain ⟨y0, y1, y2, t0, t1, t2, _⟩ := g1.all
                   have hne' := hne.symm
                   have HV7 := hide (((unhide HV).below hb5).below hb7)
                   have HB9 := hide (g2 _ _ hb8 (Nat.le_refl _))
                   have hc9 := unhide HCELL w9 ((unhide HV7).below (unhide HB9)).bel
                   clear hb5 hx6 hb6 hz6 e1 e2 e3 e4 hb7 hx8 hb8 hz8 hv9 g1 g2 g3 g4))
              exact ⟨⟨(j : Int) + 1, by omega, by omega, rfl, (unhide HV7).below (below_put3 (unhide HB9) (Nat.le_refl _) _ _ _)⟩, by simp [intOf]; omega⟩
        · have HGL := hide hlt
          clear hk1 hk2 HAT0 HAT1 HZ
          go_wp2_with (first
            | (go_at_call 10
               refine (unhide HGT l _ (unhide HV).h).mono ?_
               rintro e w5 ⟨rfl, hb5⟩
               obtain ⟨w6, hw6, ⟨na, nb, nc, o0, o1, o2⟩, hx6, hb6, hz6⟩ := new3 w5 (.int .i64 0) (.int .i64 0) (.string ⟨#[]⟩) 32
               obtain ⟨w7, hw7, e1, e2, e3, e4⟩ := over w6 w5.heap.size 0 0 3 zs.length ⟨#[]⟩ ByteArray.empty (show Bv w6 w5.heap.size 0 0 ⟨#[]⟩ from hx6)
               obtain ⟨q0, q1, q2, _, _, _, _⟩ := e1.all
               have HV7 := hide (((unhide HV).below hb5).below (e2 _ _ hb6 (Nat.le_refl _)))
               clear hb5 hx6 hb6 hz6 e1 e2 e3 e4)
            | (go_at_call 14
               refine (unhide HLN l _ (unhide HV7).h).mono ?_
               rintro e w8 ⟨rfl, hb8⟩
               have HV8 := hide ((unhide HV7).below hb8)
               clear hb8)
            | (go_at_call 15
               refine (unhide HUS l _ (unhide HV8).h).mono ?_
               rintro e w9 ⟨rfl, hw9⟩
               have hw9' := hw9.symm
               subst hw9'
               clear hw9)
            | (go_at_call 7
               refine (unhide HK _).mono ?_
               rintro e w10 ⟨rfl, hb10⟩
               have HB10 := hide hb10
               clear hb10))
          go_ret
          exact ⟨rfl, (unhide HV8).bel.trans ((unhide HB10).mono (unhide HV8).bel.size)⟩
theorem heapArrays_any (a : Option Addr) (n c : Nat) (W : World) (hI : IntsAt W a n) : Calls Tryd.prog 4 #[.slice a n c] W fun e w' => e = .returned (.bool true) ∧ Below W.heap.size W w' := by
  by_cases h : 200 < n
  · exact arrays_big a n c h W
  · exact arrays_main W a n c hI (by omega)
theorem cells3 : Tryd.prog.cellsOf 3 = 1 := by kernel_rfl
end Go.Proofs.YtojbkohgngnlaaaDoor

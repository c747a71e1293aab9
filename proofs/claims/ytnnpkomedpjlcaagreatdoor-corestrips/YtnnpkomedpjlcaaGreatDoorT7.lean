/- Members over a Name; what kids must be together. -/
import Derived.Deep.RegionWith
import Derived.Test.YtnnpkomedpjlcaaGreatDoorT6
namespace Go.Proofs.YtnnpkomedpjlcaaGreatDoor
set_option linter.unusedSimpArgs false
set_option linter.unusedVariables false
open Go.RowKit Go.Shelf

theorem mov_stop {l : List Nd} {f m : Nat} (h : ((nd l m).kind == 29 && decide ((nd l m).kids.length = 1) && ins l ((nd l m).kids.getD 0 0)) = false) : mov l (f + 1) m = ((nd l m).kind == 17) := by
  simp only [mov]
  split
  · rename_i k hk
    rw [hk] at h
    simp at h
    split
    · rename_i hc
      simp at hc
      rw [h hc.1] at hc
      simp at hc
    · rfl
  · rfl
theorem mov_go {l : List Nd} {f m : Nat} (h1 : (nd l m).kind = 29) (h2 : (nd l m).kids.length = 1) (h3 : ins l ((nd l m).kids.getD 0 0) = true) : mov l (f + 1) m = mov l f ((nd l m).kids.getD 0 0).toNat := by
  obtain ⟨k, hk⟩ := List.length_eq_one_iff.1 h2
  rw [hk] at h3 ⊢
  simp only [mov, hk]
  simp at h3
  simp [h1, h3]

set_option maxRecDepth 100000 in
set_option maxHeartbeats 1000000 in
theorem mov_ok : PlOk 102 pNew := fun W M v l n hN hn hM => by
  have HN := hide hN
  have hlen := hN.1
  obtain ⟨a, cap, rfl, _, _⟩ := hN.len
  have HM := hide hM
  clear hN
  go_enter Tryz.func102, Tryz.ntmps102
  go_wp2
  go_loopw [1, 8] (fun t1 t8 wr => ∃ i m : Nat, i ≤ l.length ∧ m < l.length ∧ t8 = .int .i64 (i : Int) ∧ t1 = .int .i64 (m : Int) ∧ mov l l.length n = mov l (l.length - i) m ∧ wr = W) (fun _ t8 _ => l.length - (intOf t8).toNat)
  case atStart => exact ⟨0, n, Nat.zero_le _, hn, rfl, rfl, rfl, rfl⟩
  case round =>
    obtain ⟨i, m, hi, hm, rfl, rfl, he, hw⟩ := hrel
    subst wr
    have HE := hide he
    clear he
    obtain ⟨b, o, cap', ka, kc, hv, hcap, hmx, hb, d0, d1, d2, d3, d4, hkc, hkm, hK⟩ := (unhide HN).at hm
    obtain ⟨rfl, rfl⟩ : a = some ⟨b, o, none⟩ ∧ cap' = cap := by injection hv with h1 _ h3; exact ⟨h1, h3.symm⟩
    clear hv
    have hml : (m : Int) < l.length := by omega
    have hbW : b < W.heap.size := Nat.lt_of_lt_of_le hb (unhide HM)
    clear hcap hmx
    by_cases hil : i < l.length
    · have hil' : (i : Int) < l.length := by omega
      obtain ⟨f, hf⟩ : ∃ f, l.length - i = f + 1 := ⟨l.length - i - 1, by omega⟩
      have HF := hide hf
      clear hf
      by_cases h1 : (nd l m).kind = 29
      · by_cases h2 : (nd l m).kids.length = 1
        · rcases hK with hK | ⟨kb, ko, rfl, hkb, hkc'⟩
          · rw [hK] at h2; simp at h2
          have dk := hkc' 0 (by omega)
          rw [Nat.add_zero] at dk
          obtain ⟨k, hk⟩ : ∃ k, (nd l m).kids.getD 0 0 = k := ⟨_, rfl⟩
          rw [hk] at dk
          have h1' : ((nd l m).kind != 29) = false := by simp [h1]
          have HK := hide hk
          have H1 := hide h1
          have H2 := hide h2
          rw [h2] at d3 hkc
          clear hkc' hk h2
          cases hins : ins l k with
          | false =>
            have HR : Hid (pNew l n = ((nd l m).kind == 17)) := by
              show mov l l.length n = _
              rw [unhide HE, unhide HF]
              exact mov_stop (by rw [unhide HK, hins]; simp)
            clear h1
            go_wp2_with (go_at_call 73; refine (within_ok (unhide HN) _).mono ?_; rintro e w2 ⟨rfl, rfl⟩)
            go_ret
            exact ⟨ret_b (unhide HR).symm, Below.refl _ _⟩
          | true =>
            have HINS := hide hins
            have hins2 := ins_iff.1 hins
            clear h1
            go_wp2_with (go_at_call 73; refine (within_ok (unhide HN) _).mono ?_; rintro e w2 ⟨rfl, rfl⟩)
            refine ⟨⟨i + 1, k.toNat, by omega, hins2.2, by go_num, by rw [Int.toNat_of_nonneg hins2.1], ?_, trivial⟩, by simp [intOf]; omega⟩
            rw [unhide HE, unhide HF, mov_go (unhide H1) (unhide H2) (by rw [unhide HK]; exact unhide HINS), unhide HK]
            have := unhide HF
            rw [show l.length - (i + 1) = f from by omega]
        · have h2' : (((nd l m).kids.length : Int) != 1) = true := by simp only [bne_iff_ne, ne_eq]; omega
          have h1' : ((nd l m).kind != 29) = false := by simp [h1]
          have HR : Hid (pNew l n = ((nd l m).kind == 17)) := by
            show mov l l.length n = _
            rw [unhide HE, unhide HF]
            exact mov_stop (by simp [h2])
          clear h1 h2
          go_wp2
          go_ret
          exact ⟨ret_b (unhide HR).symm, Below.refl _ _⟩
      · have h1' : ((nd l m).kind != 29) = true := by simpa using h1
        have HR : Hid (pNew l n = ((nd l m).kind == 17)) := by
          show mov l l.length n = _
          rw [unhide HE, unhide HF]
          exact mov_stop (by simp [h1])
        clear h1
        go_wp2
        go_ret
        exact ⟨ret_b (unhide HR).symm, Below.refl _ _⟩
    · have hil' : ¬ (i : Int) < l.length := by omega
      have HR : Hid (pNew l n = ((nd l m).kind == 17)) := by
        show mov l l.length n = _
        rw [unhide HE, show l.length - i = 0 from by omega]
        rfl
      go_wp2
      go_ret
      exact ⟨ret_b (unhide HR).symm, Below.refl _ _⟩

set_option maxRecDepth 100000 in
theorem two_ok : AllOk 70 0 two := fun W M v l ks a cap hN hK hlen _ hc hm hins hM => by
  obtain ⟨a', cap', rfl, _, _⟩ := hN.len
  clear hN hK hins
  go_enter Tryz.func70, Tryz.ntmps70
  go_wp2
  go_ret
  exact ⟨show Ending.returned (.bool (decide ((2 : Int) ≤ ks.length))) = _ from ret_b (by simp only [two]; exact decide_eq_decide.2 (by omega)), Below.refl _ _⟩

set_option maxRecDepth 100000 in
set_option maxHeartbeats 1000000 in
theorem cof_ok : AllOk 139 3 cof := fun W M v l ks a cap hN hK hlen h3 hc hm hins hM => by
  rcases hK with rfl | ⟨kb, ko, rfl, hkb, hk⟩
  · simp at h3
  have e1 := hk 1 (by omega)
  have e2 := hk 2 (by omega)
  obtain ⟨k1, h1⟩ : ∃ k1, ks.getD 1 0 = k1 := ⟨_, rfl⟩
  obtain ⟨k2, h2⟩ : ∃ k2, ks.getD 2 0 = k2 := ⟨_, rfl⟩
  have i1 : ins l k1 = true := hins _ (by rw [← h1, List.getD_eq_getElem?_getD, List.getElem?_eq_getElem (by omega)]; exact List.getElem_mem _)
  have i2 : ins l k2 = true := hins _ (by rw [← h2, List.getD_eq_getElem?_getD, List.getElem?_eq_getElem (by omega)]; exact List.getElem_mem _)
  rw [h1] at e1
  rw [h2] at e2
  obtain ⟨p1, l1⟩ := ins_iff.1 i1
  obtain ⟨p2, l2⟩ := ins_iff.1 i2
  have hkW : kb < W.heap.size := Nat.lt_of_lt_of_le hkb hM
  have g1 : (1 : Int) < ks.length := by omega
  have g2 : (2 : Int) < ks.length := by omega
  have C1 := none_ok W M v l _ hN l1 hM
  rw [Int.toNat_of_nonneg p1] at C1
  have C2 := none_ok W M v l _ hN l2 hM
  rw [Int.toNat_of_nonneg p2] at C2
  have HC1 := hide C1
  have HC2 : Hid (∀ W', Below W.heap.size W W' → Calls Tryz.prog 149 #[v, .int .i64 k2] W' fun e w' => e = .returned (.bool (pK 1 l k2.toNat)) ∧ Below W'.heap.size W' w') := fun W' hB => by
    have := none_ok W' M v l _ (hN.keep hB hM) l2 (Nat.le_trans hM hB.size)
    rw [Int.toNat_of_nonneg p2] at this
    exact this
  obtain ⟨a', cap', rfl, _, _⟩ := hN.len
  clear hN hk hins C1 C2 i1 i2 p1 p2 l1 l2
  cases hq : pK 1 l k1.toNat with
  | false =>
    have HR : Hid (cof l ks = true) := by
      have e : ((nd l k1.toNat).kind == 1) = false := hq
      show (!((nd l (ks.getD 1 0).toNat).kind == 1) || _) = true
      rw [h1, e]; rfl
    have HQ := hide hq
    clear hq h1 h2
    go_enter Tryz.func139, Tryz.ntmps139
    go_wp2_with (first | (go_at_call_of 149 k1; refine (unhide HC1).mono ?_; rintro e w2 ⟨he, hB2⟩; rw [unhide HQ] at he; subst he))
    go_ret
    exact ⟨ret_b (unhide HR).symm, hB2⟩
  | true =>
    have HR : Hid (cof l ks = !(pK 1 l k2.toNat)) := by
      have e : ((nd l k1.toNat).kind == 1) = true := hq
      show (!((nd l (ks.getD 1 0).toNat).kind == 1) || !((nd l (ks.getD 2 0).toNat).kind == 1)) = _
      rw [h1, h2, e]; rfl
    have HQ := hide hq
    clear hq h1 h2
    go_enter Tryz.func139, Tryz.ntmps139
    go_wp2_with (first | (go_at_call_of 149 k1; refine (unhide HC1).mono ?_; rintro e w2 ⟨he, hB2⟩; rw [unhide HQ] at he; subst he; have e2 := (hB2.cell (p := ⟨kb, ko + 2, none⟩) hkW).trans e2) | (go_at_call_of 149 k2; refine (unhide HC2 _ hB2).mono ?_; rintro e w3 ⟨rfl, hB3⟩))
    go_ret
    exact ⟨ret_b (unhide HR).symm, hB2.trans (hB3.mono hB2.size)⟩

theorem pcs_step {l : List Nd} : ∀ (ks : List Int), 2 ≤ ks.length → pcs l ks = ((nd l (ks.getD 0 0).toNat).kind == 11 && pcs l (ks.drop 2))
  | k :: k' :: ks, _ => by simp [pcs]
theorem pcs_end {l : List Nd} : ∀ (ks : List Int), ks.length = 1 → pcs l ks = ((nd l (ks.getD 0 0).toNat).kind == 11)
  | [k], _ => by simp [pcs]

set_option maxRecDepth 100000 in
set_option maxHeartbeats 1000000 in
theorem pcs_ok : AllOk 93 0 pcs := fun W M v l ks a cap hN hK hlen _ hc hm hins hM => by
  have HN := hide hN
  have HM := hide hM
  have HI := hide hins
  have HK := hide hK
  have hll := hN.1
  obtain ⟨a', cap', rfl, _, _⟩ := hN.len
  clear hN hK hins hc hm
  go_enter Tryz.func93, Tryz.ntmps93
  go_wp2
  go_loopw [5] (fun t wr => ∃ i : Nat, t = .int .i64 (i : Int) ∧ i % 2 = 0 ∧ ((i ≤ ks.length ∧ pcs l ks = pcs l (ks.drop i)) ∨ (i = ks.length + 1 ∧ pcs l ks = true)) ∧ wr = W) (fun t _ => ks.length + 2 - (intOf t).toNat)
  case atStart => exact ⟨0, rfl, rfl, .inl ⟨Nat.zero_le _, rfl⟩, rfl⟩
  case round =>
    obtain ⟨i, rfl, hi2, hor, hw⟩ := hrel
    subst wr
    by_cases hil : i < ks.length
    · have hil' : (i : Int) < ks.length := by omega
      have hp : pcs l ks = pcs l (ks.drop i) := by
        rcases hor with h | h
        · exact h.2
        · omega
      have HP := hide hp
      clear hp hor
      rcases unhide HK with hK | ⟨kb, ko, rfl, hkb, hkc⟩
      · subst hK; simp at hil
      have dk := hkc i hil
      obtain ⟨k, hk⟩ : ∃ k, ks.getD i 0 = k := ⟨_, rfl⟩
      rw [hk] at dk
      have i1 : ins l k = true := unhide HI _ (by rw [← hk, List.getD_eq_getElem?_getD, List.getElem?_eq_getElem hil]; exact List.getElem_mem _)
      obtain ⟨q1, q2⟩ := ins_iff.1 i1
      obtain ⟨b, o, cap'', ka, kc, hv, hcap, hmx, hb, d0, d1, d2, d3, d4, _, _, _⟩ := (unhide HN).at q2
      obtain ⟨rfl, rfl⟩ : a' = some ⟨b, o, none⟩ ∧ cap'' = cap' := by injection hv with h1 _ h3; exact ⟨h1, h3.symm⟩
      have hg0 : (ks.drop i).getD 0 0 = k := by rw [← hk]; simp [List.getD_eq_getElem?_getD]
      have HG := hide hg0
      obtain ⟨m, rfl⟩ : ∃ m : Nat, k = (m : Int) := ⟨k.toNat, (Int.toNat_of_nonneg q1).symm⟩
      simp only [Int.toNat_natCast] at q2 d0 d1 d2 d3 d4
      have hml : (m : Int) < l.length := by omega
      have hbW : b < W.heap.size := Nat.lt_of_lt_of_le hb (unhide HM)
      clear hv hcap hmx hkc hk hg0 i1
      cases hq : ((nd l m).kind == 11) with
      | false =>
        have hq' : ((nd l m).kind != 11) = true := by simp only [bne, hq]; rfl
        have HR : Hid (pcs l ks = false) := by
          show pcs l ks = false
          rw [unhide HP]
          by_cases h2 : 2 ≤ (ks.drop i).length
          · rw [pcs_step _ h2, unhide HG, Int.toNat_natCast, hq]; rfl
          · rw [pcs_end _ (by simp at h2 ⊢; omega), unhide HG, Int.toNat_natCast, hq]
        go_wp2
        go_ret
        exact ⟨ret_b (unhide HR).symm, Below.refl _ _⟩
      | true =>
        have hq' : ((nd l m).kind != 11) = false := by simp only [bne, hq]; rfl
        have HQ := hide hq
        go_wp2
        refine ⟨⟨i + 2, by go_num, by omega, ?_, trivial⟩, by simp [intOf]; omega⟩
        by_cases h2 : 2 ≤ (ks.drop i).length
        · refine .inl ⟨by simp at h2; omega, ?_⟩
          rw [unhide HP, pcs_step _ h2, unhide HG, Int.toNat_natCast, unhide HQ, List.drop_drop]; rfl
        · refine .inr ⟨by simp at h2; omega, ?_⟩
          rw [unhide HP, pcs_end _ (by simp at h2 ⊢; omega), unhide HG, Int.toNat_natCast, unhide HQ]
    · have hil' : ¬ (i : Int) < ks.length := by omega
      have HR : Hid (pcs l ks = ((ks.length : Int).tmod 2 == 1)) := by
        show pcs l ks = _
        rcases hor with ⟨h1, h2⟩ | ⟨h1, h2⟩
        · have e : i = ks.length := by omega
          rw [h2, e, List.drop_length]
          have : (ks.length : Int).tmod 2 = 0 := by rw [Int.tmod_eq_emod_of_nonneg (by omega)]; omega
          rw [this]; rfl
        · have : (ks.length : Int).tmod 2 = 1 := by rw [Int.tmod_eq_emod_of_nonneg (by omega)]; omega
          rw [h2, this]; rfl
      clear hor
      go_wp2
      go_ret
      exact ⟨ret_b (unhide HR).symm, Below.refl _ _⟩
end Go.Proofs.YtnnpkomedpjlcaaGreatDoor

/- ParseSplits, walked. -/
import Derived.Deep.CutRange
import Derived.Test.YtofgphapjjofnaaGreatDoorSC
namespace Go.Proofs.YtofgphapjjofnaaGreatDoor
set_option linter.unusedSimpArgs false
set_option linter.unusedVariables false
open Go.RowKit Go.Shelf

theorem cnt_le (t : List PN) : ∀ j, cnt t j ≤ j
  | 0 => Nat.le_refl _
  | j + 1 => by
    have := cnt_le t j
    simp only [cnt]
    split <;> omega
theorem spl_facts {n : Nat} {t : List PN} (h : spOk n t = true) : cnt t t.length = n + 1 ∧ (∀ x ∈ t, x.text.length ≤ 10 ∧ x.kids.length ≤ 10) ∧ 0 < t.length ∧ t.length ≤ 1000 ∧ (Tr.chkP (t.map toNd)).2 = 0 ∧ Tr.mdp (t.map toNd) (t.map toNd).length = 2 * n + 1 := by
  simp only [spOk, Bool.and_eq_true, decide_eq_true_eq, List.all_eq_true] at h
  obtain ⟨⟨⟨⟨⟨h1, h2⟩, h3⟩, h4⟩, h5⟩, h6⟩ := h
  exact ⟨h1, h2, h3, h4, by rw [chkQ_ok h5], by rw [List.length_map]; exact h6⟩
set_option maxRecDepth 100000 in
set_option maxHeartbeats 8000000 in
theorem splits_in {W : World} (n : Nat) (bl : Bool) (h : n ≤ 40) (hE1 : ErrG W 1) (hE2 : ErrG W 2) : Calls Tryz.prog 5 #[.int .i64 (n : Int), .bool bl] W fun e A => e = .returned (.bool true) ∧ Below W.heap.size W A := by
  have HE := Hi (And.intro hE1 hE2)
  clear hE1 hE2
  have hn1 : ¬ (n : Int) < 0 := by omega
  have hn2 : ¬ (n : Int) > 40 := by omega
  go_enter Tryz.func5, Tryz.ntmps5
  go_wp2
  go_loopw [5, 6, 7] (fun s e i wr => ∃ j : Nat, j ≤ n ∧ i = .int .i64 j ∧ s = .string (aS j) ∧ e = .string (eS bl j) ∧ W = wr) (fun _ _ i _ => n - (Lib.intOf i).toNat)
  case atStart => exact ⟨0, Nat.zero_le _, rfl, rfl, rfl, rfl⟩
  case round =>
    obtain ⟨j, hj, rfl, rfl, rfl, rfl⟩ := hrel
    by_cases hlt : j < n
    · obtain ⟨z1, z2⟩ := sp_sizes bl j
      have e2 : (⟨#[65, 60]⟩ : ByteArray).size = 2 := rfl
      have e1 : (⟨#[62]⟩ : ByteArray).size = 1 := rfl
      have e3 : (⟨#[32]⟩ : ByteArray).size = 1 := rfl
      have ha : ∀ w, (Op.stringOp .add (aS j) ⟨#[65, 60]⟩).run Tryz.prog w = .ok (.string (aS (j + 1))) w := fun w => run_string_add_sum w _ _ (by omega)
      have hb : ∀ w, (Op.stringOp .add (eS bl j) ⟨#[62]⟩).run Tryz.prog w = .ok (.string (eS bl j ++ ⟨#[62]⟩)) w := fun w => run_string_add_sum w _ _ (by omega)
      have hc : ∀ w, (Op.stringOp .add (eS bl j ++ ⟨#[62]⟩) ⟨#[32]⟩).run Tryz.prog w = .ok (.string ((eS bl j ++ ⟨#[62]⟩) ++ ⟨#[32]⟩)) w := fun w => run_string_add_sum w _ _ (by rw [ByteArray.size_append]; omega)
      have HT : Hid (eS true (j + 1) = (eS true j ++ ⟨#[62]⟩) ++ ⟨#[32]⟩) := rfl
      have HF : Hid (eS false (j + 1) = eS false j ++ ⟨#[62]⟩) := rfl
      have hlt' : (j : Int) < n := by omega
      obtain ⟨A1, hA⟩ : ∃ x, aS (j + 1) = x := ⟨_, rfl⟩
      rw [hA] at ha
      have HA := Hi hA
      clear hA z1 z2 e1 e2 e3
      cases bl with
      | true =>
        go_wp2
        refine ⟨⟨j + 1, by omega, by go_num, congrArg Value.string (U HA).symm, congrArg Value.string (U HT).symm, trivial⟩, by simp [Lib.intOf]; omega⟩
      | false =>
        go_wp2
        refine ⟨⟨j + 1, by omega, by go_num, congrArg Value.string (U HA).symm, congrArg Value.string (U HF).symm, trivial⟩, by simp [Lib.intOf]; omega⟩
    · obtain rfl : j = n := by omega
      obtain ⟨z1, z2⟩ := sp_sizes bl j
      obtain ⟨N, F, t, hok, hcv, hFB, hRD⟩ := spl_read bl h
      have e66 : (⟨#[66]⟩ : ByteArray).size = 1 := rfl
      have ha : ∀ w, (Op.stringOp .add (aS j) ⟨#[66]⟩).run Tryz.prog w = .ok (.string (aS j ++ ⟨#[66]⟩)) w := fun w => run_string_add_sum w _ _ (by omega)
      have hb : ∀ w, (Op.stringOp .add (aS j ++ ⟨#[66]⟩) (eS bl j)).run Tryz.prog w = .ok (.string (spS bl j)) w := fun w => run_string_add_sum w _ _ (by rw [ByteArray.size_append]; omega)
      obtain ⟨wF, hwF⟩ : ∃ w, (F W).2 = w := ⟨_, rfl⟩
      have hBF : Below W.heap.size W wF := by rw [← hwF]; exact hFB W
      have hC := hRD W wF (by rw [hwF]; exact Below.refl _ _) ((U HE).1.below hBF (U HE).1.lt) ((U HE).2.below hBF (U HE).2.lt)
      have hcv2 : (convert 9 22 (.string (spS bl j))).run Tryz.prog W = .ok (.slice (some ⟨W.heap.size, 0, none⟩) N (F W).1) wF := by rw [← hwF]; exact hcv W
      have HC := Hi hC
      have HBF := Hi hBF
      have HOK := Hi (spl_facts hok)
      generalize (F W).1 = cN at *
      generalize spS bl j = A2 at *
      generalize aS j ++ ⟨#[66]⟩ = A1 at *
      generalize aS j = A0 at *
      generalize eS bl j = A3 at *
      unfold AnsQ at HC
      clear hcv hFB hRD hwF hC hBF hlt hj z1 z2 e66 hok
      go_upto_region 12 with fail
      go_cut [8, 9, 10] from 32 to 41 (fun s8 s9 s10 wx => ∃ b4 ta tc, s8 = .pointer (some ⟨b4, 0, none⟩) ∧ s9 = .int .i64 0 ∧ s10 = .int .i64 0 ∧ wx.heap[b4]? = some (.cells #[.slice ta t.length tc] 25) ∧ NdRow (fun _ => False) wx (.slice ta t.length tc) t ∧ WFr W wx)
      case first =>
        go_wp2_with (go_at_call 13; refine (U HC).mono ?_; rintro e w3 ⟨⟨tvv, rfl, hN⟩, h3⟩; obtain ⟨ta, tc, etv⟩ := nd_form hN; subst etv; have HN := Hi hN; have HW3 := Hi h3; clear hN h3)
        go_meet
        case rel =>
          have hA : WFr w3 (w3.alloc (.cells #[.slice ta t.length tc] 25)) := WFr.of ((Below.refl _ w3).alloc (Nat.le_refl _) _)
          exact ⟨w3.heap.size, ta, tc, rfl, rfl, rfl, al_at _ _, hA.nds _ _ (U HN), (WFr.of (U HBF)).trans ((U HW3).trans hA)⟩
      case rest =>
        obtain ⟨b4, ta, tc, rfl, rfl, rfl, hbx, hN, hW⟩ := hcut
        clear hcv2 HC HBF
        obtain ⟨o1, o2, o3, o4, o5, o6⟩ := U HOK
        have HD := Hi (callsIn_wide.1 (Tr.depth_good wc wc.heap.size _ _ (nodes_of hN o2 o4 o3) (Nat.le_refl _) o5))
        rw [o6] at HD
        have c0 : wc.cell? ⟨b4, 0, none⟩ = some (.slice ta t.length tc) := by simp [World.cell?, hbx]
        have hb4 := World.block_lt_of_cell? wc _ c0
        have HN := Hi hN
        have HW := Hi hW
        have HCN := Hi o1
        have hER : ErrG wc 1 ∧ ErrG wc 2 := ⟨(U HE).1.below hW.bel (U HE).1.lt, (U HE).2.below hW.bel (U HE).2.lt⟩
        have HER := Hi hER
        have hT3 : t.length ≤ 1000 := o4
        clear hN hW o1 o2 o3 o5 o6 hER hbx o4
        go_wp2
        go_loopw [11, 12] (fun c i wr => ∃ k : Nat, k ≤ t.length ∧ i = .int .i64 k ∧ c = .int .i64 (cnt t k : Nat) ∧ wc = wr) (fun _ i _ => t.length - (Lib.intOf i).toNat)
        case atStart => exact ⟨0, Nat.zero_le _, rfl, rfl, rfl⟩
        case round =>
          obtain ⟨k, hk, rfl, rfl, rfl⟩ := hrel
          by_cases hlt : k < t.length
          · obtain ⟨x, hx⟩ : ∃ x, t[k]? = some x := ⟨_, List.getElem?_eq_getElem hlt⟩
            obtain ⟨g, cap', kv, etv, _, _, _, c1, _⟩ := nd_five (U HN) hx
            cases etv
            have hgl := World.block_lt_of_cell? wc _ c1
            have hlt' : (k : Int) < (t.length : Int) := by omega
            have hcl := cnt_le t k
            have HS : Hid (cnt t (k + 1) = cnt t k + if x.kind = 80 then 1 else 0) := by
              show cnt t k + _ = _
              rw [List.getD_eq_getElem?_getD, hx]
              rfl
            generalize cnt t k = C at *
            have hwc : wrap64 ((C : Int) + 1) = (C : Int) + 1 := IntWalk.wrap64_in _ (by omega)
            by_cases h80 : x.kind = 80
            · rw [h80] at c1
              have hf : (cnt t (k + 1) : Int) = (C : Int) + 1 := by rw [U HS, if_pos h80]; rfl
              have HF := Hi hf
              clear hf hcl hx
              go_wp2
              refine ⟨⟨k + 1, by omega, by go_num, congrArg _ (hwc.trans (U HF).symm), trivial⟩, by simp [Lib.intOf]; omega⟩
            · have hb : (x.kind == 80) = false := beq_eq_false_iff_ne.2 h80
              have hf : (cnt t (k + 1) : Int) = (C : Int) := by rw [U HS, if_neg h80]; rfl
              have HF := Hi hf
              generalize x.kind = xk at *
              clear hf hcl hx
              go_wp2
              refine ⟨⟨k + 1, by omega, by go_num, congrArg _ (U HF).symm, trivial⟩, by simp [Lib.intOf]; omega⟩
          · obtain rfl : k = t.length := by omega
            rw [U HCN]
            have hBW : Below W.heap.size W wc := (U HW).bel
            have HBW := Hi hBW
            have hw1 : wrap64 (2 * (j : Int)) = 2 * (j : Int) := IntWalk.wrap64_in _ (by omega)
            have hw2 : wrap64 (2 * (j : Int) + 1) = 2 * (j : Int) + 1 := IntWalk.wrap64_in _ (by omega)
            have hw3 : wrap64 ((j : Int) + 1) = (j : Int) + 1 := IntWalk.wrap64_in _ (by omega)
            clear hBW hlt hk
            go_wp2_with (first
              | (go_at_call 14; refine (U HD).mono ?_; rintro e w8 ⟨rfl, h8⟩; have HKN := Hi (known_any ((U HER).1.below h8 (U HER).1.lt) ((U HER).2.below h8 (U HER).2.lt)); have H8 := Hi ((U HBW).trans (h8.mono (U HBW).size)); clear h8)
              | (go_at_call 10; refine (U HKN).mono ?_; rintro e w9 ⟨rfl, h9⟩; have H9 := Hi h9; clear h9))
            go_ret
            exact ⟨rfl, (U H8).trans ((U H9).bel.mono (U H8).size)⟩
set_option maxRecDepth 100000 in
set_option maxHeartbeats 8000000 in
theorem splits_any {W : World} (a : Int) (b : Bool) (hE1 : ErrG W 1) (hE2 : ErrG W 2) : Calls Tryz.prog 5 #[.int .i64 a, .bool b] W fun e A => e = .returned (.bool true) ∧ Below W.heap.size W A := by
  by_cases h1 : a < 0
  · have HK := Hi (known_any hE1 hE2)
    clear hE1 hE2
    go_enter Tryz.func5, Tryz.ntmps5
    go_wp2_with (go_at_call 10; refine (U HK).mono ?_; rintro e w ⟨rfl, hw⟩)
    go_ret
    exact ⟨rfl, hw.bel⟩
  · by_cases h2 : a > 40
    · have HK := Hi (known_any hE1 hE2)
      clear hE1 hE2
      go_enter Tryz.func5, Tryz.ntmps5
      go_wp2_with (go_at_call 10; refine (U HK).mono ?_; rintro e w ⟨rfl, hw⟩)
      go_ret
      exact ⟨rfl, hw.bel⟩
    · obtain ⟨n, rfl⟩ : ∃ n : Nat, a = (n : Int) := ⟨a.toNat, by omega⟩
      exact splits_in n b (by omega) hE1 hE2
end Go.Proofs.YtofgphapjjofnaaGreatDoor

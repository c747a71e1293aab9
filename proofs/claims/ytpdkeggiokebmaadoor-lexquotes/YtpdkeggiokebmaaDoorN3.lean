/- The reference's number. -/
import Derived.LoopN
import Derived.WalkMore
import Derived.Test.YtpdkeggiokebmaaDoorX4
import Derived.Test.YtpdkeggiokebmaaDoorN2
import Derived.Test.YtpdkeggiokebmaaDoorZP3
namespace Go.Proofs.YtpdkeggiokebmaaDoor
set_option linter.unusedSimpArgs false
set_option linter.unusedVariables false
open Go.RowKit Go.Shelf

attribute [local go_sem] tokV
/-- What a number's taking gives. -/
def numT (g : Nat → Int) (len at' : Nat) : Value := if numOk g len at' = true then tokV 3 (strOfNums (sub g at' (numEnd g len at'))) at' (numEnd g len at') else tokV 0 ⟨#[]⟩ 0 0
set_option maxRecDepth 100000 in
set_option maxHeartbeats 4000000 in
theorem rnumber_any (c : Nat) (a : Option Addr) (len cap : Nat) (g : Nat → Int) (at' : Nat) (W : World) (hS : Sl W c (.slice a len cap) len g) (hc : c < W.heap.size) (hat : at' < len) (hD : isD (g at') = true) (hlen : len ≤ 1099511627776) :
    Calls Tryd.prog 43 #[.slice a len cap, .int .i64 (at' : Int)] W fun x W' => x = .returned (.tuple #[numT g len at', .bool (numOk g len at')]) ∧ Below W.heap.size W W' := by
  obtain ⟨W1, hW1⟩ : ∃ W1, W.alloc (.cells #[.int .i64 0, .string ⟨#[]⟩, .int .i64 0, .int .i64 0] 33) = W1 := ⟨_, rfl⟩
  have hB1 : Below W.heap.size W W1 := by rw [← hW1]; exact (Below.refl _ W).alloc (Nat.le_refl _) _
  have hz1 : W1.heap.size = W.heap.size + 1 := by rw [← hW1]; simp
  have hr1 : W1.heap[W.heap.size]? = some (.cells #[.int .i64 0, .string ⟨#[]⟩, .int .i64 0, .int .i64 0] 33) := by rw [← hW1]; exact World.alloc_heap_new W _
  have hS1 := hS.keep (B := W1) (fun k e => by subst e; exact hB1.block k hc)
  have HCS := sl_cells hS1
  obtain ⟨off, rfl, hcp, hmx, hcs⟩ := unhide HCS (by omega)
  unfold maxLen at hmx
  have he := stopI_spec (p := isD) (g := g) (len := len) (i := at') (by omega)
  have hst := stopI_step (p := isD) (g := g) hat hD
  have he1 := (stopI_spec (p := isD) (g := g) (len := len) (i := at' + 1) (by omega)).1
  rw [← hst] at he1
  obtain ⟨e, hee⟩ : ∃ e, numEnd g len at' = e := ⟨_, rfl⟩
  have hee' : stopI isD g len at' = e := hee
  rw [hee'] at he he1
  obtain ⟨s1, s2, s3, s4⟩ := he
  obtain ⟨sv', hsl, hcv⟩ := cut_conv hS1 (by omega : at' ≤ e) s2
  have hcv1 := hcv _ hS1
  have HOK : Hid (numOk g len at' = (decide (decV g at' (e - at') ≤ 9007199254740991) && !(g at' == 48 && decide (at' + 1 < e)) && !(decide (e < len) && isL (g e)))) := by show _ = _; rw [numOk, hee]
  have HNT : Hid (numT g len at' = if numOk g len at' = true then tokV 3 (strOfNums (sub g at' e)) at' e else tokV 0 ⟨#[]⟩ 0 0) := by show _ = _; rw [numT, hee]
  have hdig : ∀ n, at' + n ≤ e → ∀ j, j < n → isD (g (at' + j)) = true := fun n hn j hj => s3 (at' + j) (by omega) (by omega)
  have HDG := hide hdig
  have HS3 := hide s3
  have HS4 := hide s4
  have HCJ := hide hcs
  have d0 : W1.cell? ⟨W.heap.size, 0, none⟩ = some (.int .i64 0) := by rw [Lib.cell_of_heap hr1]; rfl
  have d1 : W1.cell? ⟨W.heap.size, 1, none⟩ = some (.string ⟨#[]⟩) := by rw [Lib.cell_of_heap hr1]; rfl
  have d2 : W1.cell? ⟨W.heap.size, 2, none⟩ = some (.int .i64 0) := by rw [Lib.cell_of_heap hr1]; rfl
  have d3 : W1.cell? ⟨W.heap.size, 3, none⟩ = some (.int .i64 0) := by rw [Lib.cell_of_heap hr1]; rfl
  have d4 := Lib.frozen_of_heap hr1
  have d5 : W1.shape? W.heap.size = some (33, 4) := by simp [World.shape?, hr1]
  have HW1 := hide hW1
  clear hS hS1 hcs hdig s3 s4 hee hee' hst hW1
  go_enter Tryd.func43, Tryd.ntmps43
  go_wp2
  rw [unhide HW1]
  go_loopw [6, 7, 8] (fun t6 t7 t8 wr => ∃ k : Nat, at' ≤ k ∧ k ≤ e ∧ t6 = .int .i64 (k : Int) ∧ ((t8 = .bool true ∧ t7 = .int .i64 (decV g at' (k - at')) ∧ decV g at' (k - at') ≤ 9007199254740991) ∨ (t8 = .bool false ∧ 9007199254740991 < decV g at' (k - at') ∧ ∃ z, t7 = .int .i64 z)) ∧ wr = W1) (fun t _ _ _ => len - (intOf t).toNat)
  case atStart => exact ⟨at', Nat.le_refl _, by omega, rfl, .inl ⟨rfl, by simp [decV], by simp [decV]⟩, rfl⟩
  case round =>
    obtain ⟨k, hk1, hk2, rfl, hv, hw⟩ := hrel
    subst wr
    by_cases hke : k < e
    · have hkl : (k : Int) < len := by omega
      have hck := unhide HCJ k (by omega)
      have hDk := unhide HS3 k hk1 hke
      have hbd := isD_bd hDk
      have hsucc : decV g at' (k + 1 - at') = decV g at' (k - at') * 10 + (g k - 48) := by
        rw [show k + 1 - at' = (k - at') + 1 from by omega, decV, show at' + (k - at') = k from by omega]
      have hnn := decV_nn (unhide HDG (k - at') (by omega))
      rcases hv with ⟨rfl, rfl, hle⟩ | ⟨rfl, hgt, z, rfl⟩
      · obtain ⟨v, hv⟩ : ∃ v, decV g at' (k - at') = v := ⟨_, rfl⟩
        rw [hv] at hsucc hnn hle
        rw [hv]
        by_cases hn : v * 10 + g k - 48 ≤ 9007199254740991
        · have hnd : decide (v * 10 + g k - 48 ≤ 9007199254740991) = true := decide_eq_true hn
          have HN : Hid (decV g at' (k + 1 - at') = v * 10 + g k - 48) := by show _ = _; rw [hsucc]; omega
          clear hsucc hv
          go_wp2_with (go_at_call 41; refine (rDigit_any _ _).mono ?_; rintro x w' ⟨rfl, hw⟩; subst w')
          exact ⟨⟨k + 1, by omega, by omega, by go_num, .inl ⟨rfl, by rw [unhide HN], by rw [unhide HN]; exact hn⟩, trivial⟩, by simp [intOf]; omega⟩
        · have hnd : decide (v * 10 + g k - 48 ≤ 9007199254740991) = false := decide_eq_false hn
          have HN : Hid (decV g at' (k + 1 - at') = v * 10 + g k - 48) := by show _ = _; rw [hsucc]; omega
          clear hsucc hv
          go_wp2_with (go_at_call 41; refine (rDigit_any _ _).mono ?_; rintro x w' ⟨rfl, hw⟩; subst w')
          exact ⟨⟨k + 1, by omega, by omega, by go_num, .inr ⟨rfl, by rw [unhide HN]; omega, _, rfl⟩, trivial⟩, by simp [intOf]; omega⟩
      · have HN : Hid (9007199254740991 < decV g at' (k + 1 - at')) := by show _ < _; rw [hsucc]; omega
        clear hsucc
        go_wp2_with (go_at_call 41; refine (rDigit_any _ _).mono ?_; rintro x w' ⟨rfl, hw⟩; subst w')
        exact ⟨⟨k + 1, by omega, by omega, by go_num, .inr ⟨rfl, unhide HN, _, rfl⟩, trivial⟩, by simp [intOf]; omega⟩
    · obtain rfl : k = e := by omega
      have hca := unhide HCJ at' hat
      have hal : (at' : Int) < len := by omega
      by_cases hkl : k < len
      · have hkl' : (k : Int) < len := by omega
        have hkd : decide ((k : Int) < len) = true := decide_eq_true hkl'
        have hkd' : decide (k < len) = true := decide_eq_true hkl
        have hck := unhide HCJ k hkl
        have hDk : isD (g k) = false := by
          rcases unhide HS4 with h | h
          · omega
          · exact h
        rcases hv with ⟨rfl, rfl, hle⟩ | ⟨rfl, hgt, z, rfl⟩
        · have hle' : decide (decV g at' (k - at') ≤ 9007199254740991) = true := decide_eq_true hle
          obtain ⟨v, hv⟩ : ∃ v, decV g at' (k - at') = v := ⟨_, rfl⟩
          rw [hv]
          by_cases h48 : g at' = 48
          · have b48 : (g at' == 48) = true := by rw [h48]; rfl
            by_cases hm : at' + 1 < k
            · have hm1 : decide (at' + 1 < k) = true := decide_eq_true hm
              have hm2 : decide ((at' : Int) + 1 < k) = true := decide_eq_true (by omega)
              have HOK2 : Hid (numOk g len at' = false) := by show _ = _; rw [unhide HOK, b48, hm1]; simp
              clear hv hle'
              go_wp2_with (first | (go_at_call 41; refine (rDigit_any _ _).mono ?_; rintro x w' ⟨rfl, hw⟩; subst w') | (go_at_call 40; refine (rLetter_any _ _).mono ?_; rintro x w' ⟨rfl, hw⟩; subst w'))
              have hB4 := put4_below (W := W1) (Nat.le_refl W.heap.size) (.int .i64 0) (.string ⟨#[]⟩) (.int .i64 0) (.int .i64 0)
              have hr4 := put4_heap hr1 (.int .i64 0) (.string ⟨#[]⟩) (.int .i64 0) (.int .i64 0)
              obtain ⟨W4, hW4⟩ : ∃ W4, ((((W1.setCell ⟨W.heap.size, 0, none⟩ (.int .i64 0)).setCell ⟨W.heap.size, 1, none⟩ (.string ⟨#[]⟩)).setCell ⟨W.heap.size, 2, none⟩ (.int .i64 0)).setCell ⟨W.heap.size, 3, none⟩ (.int .i64 0)) = W4 := ⟨_, rfl⟩
              rw [hW4] at hB4 hr4 ⊢
              clear hW4
              obtain ⟨e0, e1, e2, e3⟩ := tok_cells hr4
              refine bodyPost_ret (v := .tuple #[.agg #[(.int .i64 0), (.string ⟨#[]⟩), (.int .i64 0), (.int .i64 0)], .bool false]) ?_ rfl ⟨by rw [unhide HNT, unhide HOK2]; rfl, hB1.trans hB4⟩
              clear d0 d1 d2 d3 d4 d5
              simp [results, Tryd.results43, go_sem, e0, e1, e2, e3]
            · have hm1 : decide (at' + 1 < k) = false := decide_eq_false hm
              have hm2 : decide ((at' : Int) + 1 < k) = false := decide_eq_false (by omega)
              cases hL : isL (g k) with
              | true =>
                have HOK2 : Hid (numOk g len at' = false) := by show _ = _; rw [unhide HOK, hL, hkd']; simp
                clear hv hle'
                go_wp2_with (first | (go_at_call 41; refine (rDigit_any _ _).mono ?_; rintro x w' ⟨rfl, hw⟩; subst w') | (go_at_call 40; refine (rLetter_any _ _).mono ?_; rintro x w' ⟨rfl, hw⟩; subst w'))
                have hB4 := put4_below (W := W1) (Nat.le_refl W.heap.size) (.int .i64 0) (.string ⟨#[]⟩) (.int .i64 0) (.int .i64 0)
                have hr4 := put4_heap hr1 (.int .i64 0) (.string ⟨#[]⟩) (.int .i64 0) (.int .i64 0)
                obtain ⟨W4, hW4⟩ : ∃ W4, ((((W1.setCell ⟨W.heap.size, 0, none⟩ (.int .i64 0)).setCell ⟨W.heap.size, 1, none⟩ (.string ⟨#[]⟩)).setCell ⟨W.heap.size, 2, none⟩ (.int .i64 0)).setCell ⟨W.heap.size, 3, none⟩ (.int .i64 0)) = W4 := ⟨_, rfl⟩
                rw [hW4] at hB4 hr4 ⊢
                clear hW4
                obtain ⟨e0, e1, e2, e3⟩ := tok_cells hr4
                refine bodyPost_ret (v := .tuple #[.agg #[(.int .i64 0), (.string ⟨#[]⟩), (.int .i64 0), (.int .i64 0)], .bool false]) ?_ rfl ⟨by rw [unhide HNT, unhide HOK2]; rfl, hB1.trans hB4⟩
                clear d0 d1 d2 d3 d4 d5
                simp [results, Tryd.results43, go_sem, e0, e1, e2, e3]
              | false =>
                have HOK2 : Hid (numOk g len at' = true) := by show _ = _; rw [unhide HOK, hL, hle', b48, hm1]; simp
                clear hv hle'
                go_wp2_with (first | (go_at_call 41; refine (rDigit_any _ _).mono ?_; rintro x w' ⟨rfl, hw⟩; subst w') | (go_at_call 40; refine (rLetter_any _ _).mono ?_; rintro x w' ⟨rfl, hw⟩; subst w'))
                have hB4 := put4_below (W := W1) (Nat.le_refl W.heap.size) (.int .i64 3) (.string (strOfNums (sub g at' k))) (.int .i64 (at' : Int)) (.int .i64 (k : Int))
                have hr4 := put4_heap hr1 (.int .i64 3) (.string (strOfNums (sub g at' k))) (.int .i64 (at' : Int)) (.int .i64 (k : Int))
                obtain ⟨W4, hW4⟩ : ∃ W4, ((((W1.setCell ⟨W.heap.size, 0, none⟩ (.int .i64 3)).setCell ⟨W.heap.size, 1, none⟩ (.string (strOfNums (sub g at' k)))).setCell ⟨W.heap.size, 2, none⟩ (.int .i64 (at' : Int))).setCell ⟨W.heap.size, 3, none⟩ (.int .i64 (k : Int))) = W4 := ⟨_, rfl⟩
                rw [hW4] at hB4 hr4 ⊢
                clear hW4
                obtain ⟨e0, e1, e2, e3⟩ := tok_cells hr4
                refine bodyPost_ret (v := .tuple #[.agg #[(.int .i64 3), (.string (strOfNums (sub g at' k))), (.int .i64 (at' : Int)), (.int .i64 (k : Int))], .bool true]) ?_ rfl ⟨by rw [unhide HNT, unhide HOK2]; rfl, hB1.trans hB4⟩
                clear d0 d1 d2 d3 d4 d5
                simp [results, Tryd.results43, go_sem, e0, e1, e2, e3]
          · have b48 : (g at' == 48) = false := beq_eq_false_iff_ne.2 h48
            cases hL : isL (g k) with
            | true =>
              have HOK2 : Hid (numOk g len at' = false) := by show _ = _; rw [unhide HOK, hL, hkd']; simp
              clear hv hle'
              go_wp2_with (first | (go_at_call 41; refine (rDigit_any _ _).mono ?_; rintro x w' ⟨rfl, hw⟩; subst w') | (go_at_call 40; refine (rLetter_any _ _).mono ?_; rintro x w' ⟨rfl, hw⟩; subst w'))
              have hB4 := put4_below (W := W1) (Nat.le_refl W.heap.size) (.int .i64 0) (.string ⟨#[]⟩) (.int .i64 0) (.int .i64 0)
              have hr4 := put4_heap hr1 (.int .i64 0) (.string ⟨#[]⟩) (.int .i64 0) (.int .i64 0)
              obtain ⟨W4, hW4⟩ : ∃ W4, ((((W1.setCell ⟨W.heap.size, 0, none⟩ (.int .i64 0)).setCell ⟨W.heap.size, 1, none⟩ (.string ⟨#[]⟩)).setCell ⟨W.heap.size, 2, none⟩ (.int .i64 0)).setCell ⟨W.heap.size, 3, none⟩ (.int .i64 0)) = W4 := ⟨_, rfl⟩
              rw [hW4] at hB4 hr4 ⊢
              clear hW4
              obtain ⟨e0, e1, e2, e3⟩ := tok_cells hr4
              refine bodyPost_ret (v := .tuple #[.agg #[(.int .i64 0), (.string ⟨#[]⟩), (.int .i64 0), (.int .i64 0)], .bool false]) ?_ rfl ⟨by rw [unhide HNT, unhide HOK2]; rfl, hB1.trans hB4⟩
              clear d0 d1 d2 d3 d4 d5
              simp [results, Tryd.results43, go_sem, e0, e1, e2, e3]
            | false =>
              have HOK2 : Hid (numOk g len at' = true) := by show _ = _; rw [unhide HOK, hL, hle', b48]; simp
              clear hv hle'
              go_wp2_with (first | (go_at_call 41; refine (rDigit_any _ _).mono ?_; rintro x w' ⟨rfl, hw⟩; subst w') | (go_at_call 40; refine (rLetter_any _ _).mono ?_; rintro x w' ⟨rfl, hw⟩; subst w'))
              have hB4 := put4_below (W := W1) (Nat.le_refl W.heap.size) (.int .i64 3) (.string (strOfNums (sub g at' k))) (.int .i64 (at' : Int)) (.int .i64 (k : Int))
              have hr4 := put4_heap hr1 (.int .i64 3) (.string (strOfNums (sub g at' k))) (.int .i64 (at' : Int)) (.int .i64 (k : Int))
              obtain ⟨W4, hW4⟩ : ∃ W4, ((((W1.setCell ⟨W.heap.size, 0, none⟩ (.int .i64 3)).setCell ⟨W.heap.size, 1, none⟩ (.string (strOfNums (sub g at' k)))).setCell ⟨W.heap.size, 2, none⟩ (.int .i64 (at' : Int))).setCell ⟨W.heap.size, 3, none⟩ (.int .i64 (k : Int))) = W4 := ⟨_, rfl⟩
              rw [hW4] at hB4 hr4 ⊢
              clear hW4
              obtain ⟨e0, e1, e2, e3⟩ := tok_cells hr4
              refine bodyPost_ret (v := .tuple #[.agg #[(.int .i64 3), (.string (strOfNums (sub g at' k))), (.int .i64 (at' : Int)), (.int .i64 (k : Int))], .bool true]) ?_ rfl ⟨by rw [unhide HNT, unhide HOK2]; rfl, hB1.trans hB4⟩
              clear d0 d1 d2 d3 d4 d5
              simp [results, Tryd.results43, go_sem, e0, e1, e2, e3]
        · have hle' : decide (decV g at' (k - at') ≤ 9007199254740991) = false := decide_eq_false (by omega)
          have HOK2 : Hid (numOk g len at' = false) := by show _ = _; rw [unhide HOK, hle']; simp
          clear hle'
          go_wp2_with (first | (go_at_call 41; refine (rDigit_any _ _).mono ?_; rintro x w' ⟨rfl, hw⟩; subst w') | (go_at_call 40; refine (rLetter_any _ _).mono ?_; rintro x w' ⟨rfl, hw⟩; subst w'))
          have hB4 := put4_below (W := W1) (Nat.le_refl W.heap.size) (.int .i64 0) (.string ⟨#[]⟩) (.int .i64 0) (.int .i64 0)
          have hr4 := put4_heap hr1 (.int .i64 0) (.string ⟨#[]⟩) (.int .i64 0) (.int .i64 0)
          obtain ⟨W4, hW4⟩ : ∃ W4, ((((W1.setCell ⟨W.heap.size, 0, none⟩ (.int .i64 0)).setCell ⟨W.heap.size, 1, none⟩ (.string ⟨#[]⟩)).setCell ⟨W.heap.size, 2, none⟩ (.int .i64 0)).setCell ⟨W.heap.size, 3, none⟩ (.int .i64 0)) = W4 := ⟨_, rfl⟩
          rw [hW4] at hB4 hr4 ⊢
          clear hW4
          obtain ⟨e0, e1, e2, e3⟩ := tok_cells hr4
          refine bodyPost_ret (v := .tuple #[.agg #[(.int .i64 0), (.string ⟨#[]⟩), (.int .i64 0), (.int .i64 0)], .bool false]) ?_ rfl ⟨by rw [unhide HNT, unhide HOK2]; rfl, hB1.trans hB4⟩
          clear d0 d1 d2 d3 d4 d5
          simp [results, Tryd.results43, go_sem, e0, e1, e2, e3]
      · have hkl' : ¬ (k : Int) < len := by omega
        have hkd : decide ((k : Int) < len) = false := decide_eq_false hkl'
        have hkd' : decide (k < len) = false := decide_eq_false hkl
        rcases hv with ⟨rfl, rfl, hle⟩ | ⟨rfl, hgt, z, rfl⟩
        · have hle' : decide (decV g at' (k - at') ≤ 9007199254740991) = true := decide_eq_true hle
          obtain ⟨v, hv⟩ : ∃ v, decV g at' (k - at') = v := ⟨_, rfl⟩
          rw [hv]
          by_cases h48 : g at' = 48
          · have b48 : (g at' == 48) = true := by rw [h48]; rfl
            by_cases hm : at' + 1 < k
            · have hm1 : decide (at' + 1 < k) = true := decide_eq_true hm
              have hm2 : decide ((at' : Int) + 1 < k) = true := decide_eq_true (by omega)
              have HOK2 : Hid (numOk g len at' = false) := by show _ = _; rw [unhide HOK, b48, hm1]; simp
              clear hv hle'
              go_wp2_with (first | (go_at_call 41; refine (rDigit_any _ _).mono ?_; rintro x w' ⟨rfl, hw⟩; subst w') | (go_at_call 40; refine (rLetter_any _ _).mono ?_; rintro x w' ⟨rfl, hw⟩; subst w'))
              have hB4 := put4_below (W := W1) (Nat.le_refl W.heap.size) (.int .i64 0) (.string ⟨#[]⟩) (.int .i64 0) (.int .i64 0)
              have hr4 := put4_heap hr1 (.int .i64 0) (.string ⟨#[]⟩) (.int .i64 0) (.int .i64 0)
              obtain ⟨W4, hW4⟩ : ∃ W4, ((((W1.setCell ⟨W.heap.size, 0, none⟩ (.int .i64 0)).setCell ⟨W.heap.size, 1, none⟩ (.string ⟨#[]⟩)).setCell ⟨W.heap.size, 2, none⟩ (.int .i64 0)).setCell ⟨W.heap.size, 3, none⟩ (.int .i64 0)) = W4 := ⟨_, rfl⟩
              rw [hW4] at hB4 hr4 ⊢
              clear hW4
              obtain ⟨e0, e1, e2, e3⟩ := tok_cells hr4
              refine bodyPost_ret (v := .tuple #[.agg #[(.int .i64 0), (.string ⟨#[]⟩), (.int .i64 0), (.int .i64 0)], .bool false]) ?_ rfl ⟨by rw [unhide HNT, unhide HOK2]; rfl, hB1.trans hB4⟩
              clear d0 d1 d2 d3 d4 d5
              simp [results, Tryd.results43, go_sem, e0, e1, e2, e3]
            · have hm1 : decide (at' + 1 < k) = false := decide_eq_false hm
              have hm2 : decide ((at' : Int) + 1 < k) = false := decide_eq_false (by omega)
              have HOK2 : Hid (numOk g len at' = true) := by show _ = _; rw [unhide HOK, hkd', hle', b48, hm1]; simp
              clear hv hle'
              go_wp2_with (first | (go_at_call 41; refine (rDigit_any _ _).mono ?_; rintro x w' ⟨rfl, hw⟩; subst w') | (go_at_call 40; refine (rLetter_any _ _).mono ?_; rintro x w' ⟨rfl, hw⟩; subst w'))
              have hB4 := put4_below (W := W1) (Nat.le_refl W.heap.size) (.int .i64 3) (.string (strOfNums (sub g at' k))) (.int .i64 (at' : Int)) (.int .i64 (k : Int))
              have hr4 := put4_heap hr1 (.int .i64 3) (.string (strOfNums (sub g at' k))) (.int .i64 (at' : Int)) (.int .i64 (k : Int))
              obtain ⟨W4, hW4⟩ : ∃ W4, ((((W1.setCell ⟨W.heap.size, 0, none⟩ (.int .i64 3)).setCell ⟨W.heap.size, 1, none⟩ (.string (strOfNums (sub g at' k)))).setCell ⟨W.heap.size, 2, none⟩ (.int .i64 (at' : Int))).setCell ⟨W.heap.size, 3, none⟩ (.int .i64 (k : Int))) = W4 := ⟨_, rfl⟩
              rw [hW4] at hB4 hr4 ⊢
              clear hW4
              obtain ⟨e0, e1, e2, e3⟩ := tok_cells hr4
              refine bodyPost_ret (v := .tuple #[.agg #[(.int .i64 3), (.string (strOfNums (sub g at' k))), (.int .i64 (at' : Int)), (.int .i64 (k : Int))], .bool true]) ?_ rfl ⟨by rw [unhide HNT, unhide HOK2]; rfl, hB1.trans hB4⟩
              clear d0 d1 d2 d3 d4 d5
              simp [results, Tryd.results43, go_sem, e0, e1, e2, e3]
          · have b48 : (g at' == 48) = false := beq_eq_false_iff_ne.2 h48
            have HOK2 : Hid (numOk g len at' = true) := by show _ = _; rw [unhide HOK, hkd', hle', b48]; simp
            clear hv hle'
            go_wp2_with (first | (go_at_call 41; refine (rDigit_any _ _).mono ?_; rintro x w' ⟨rfl, hw⟩; subst w') | (go_at_call 40; refine (rLetter_any _ _).mono ?_; rintro x w' ⟨rfl, hw⟩; subst w'))
            have hB4 := put4_below (W := W1) (Nat.le_refl W.heap.size) (.int .i64 3) (.string (strOfNums (sub g at' k))) (.int .i64 (at' : Int)) (.int .i64 (k : Int))
            have hr4 := put4_heap hr1 (.int .i64 3) (.string (strOfNums (sub g at' k))) (.int .i64 (at' : Int)) (.int .i64 (k : Int))
            obtain ⟨W4, hW4⟩ : ∃ W4, ((((W1.setCell ⟨W.heap.size, 0, none⟩ (.int .i64 3)).setCell ⟨W.heap.size, 1, none⟩ (.string (strOfNums (sub g at' k)))).setCell ⟨W.heap.size, 2, none⟩ (.int .i64 (at' : Int))).setCell ⟨W.heap.size, 3, none⟩ (.int .i64 (k : Int))) = W4 := ⟨_, rfl⟩
            rw [hW4] at hB4 hr4 ⊢
            clear hW4
            obtain ⟨e0, e1, e2, e3⟩ := tok_cells hr4
            refine bodyPost_ret (v := .tuple #[.agg #[(.int .i64 3), (.string (strOfNums (sub g at' k))), (.int .i64 (at' : Int)), (.int .i64 (k : Int))], .bool true]) ?_ rfl ⟨by rw [unhide HNT, unhide HOK2]; rfl, hB1.trans hB4⟩
            clear d0 d1 d2 d3 d4 d5
            simp [results, Tryd.results43, go_sem, e0, e1, e2, e3]
        · have hle' : decide (decV g at' (k - at') ≤ 9007199254740991) = false := decide_eq_false (by omega)
          have HOK2 : Hid (numOk g len at' = false) := by show _ = _; rw [unhide HOK, hle']; simp
          clear hle'
          go_wp2_with (first | (go_at_call 41; refine (rDigit_any _ _).mono ?_; rintro x w' ⟨rfl, hw⟩; subst w') | (go_at_call 40; refine (rLetter_any _ _).mono ?_; rintro x w' ⟨rfl, hw⟩; subst w'))
          have hB4 := put4_below (W := W1) (Nat.le_refl W.heap.size) (.int .i64 0) (.string ⟨#[]⟩) (.int .i64 0) (.int .i64 0)
          have hr4 := put4_heap hr1 (.int .i64 0) (.string ⟨#[]⟩) (.int .i64 0) (.int .i64 0)
          obtain ⟨W4, hW4⟩ : ∃ W4, ((((W1.setCell ⟨W.heap.size, 0, none⟩ (.int .i64 0)).setCell ⟨W.heap.size, 1, none⟩ (.string ⟨#[]⟩)).setCell ⟨W.heap.size, 2, none⟩ (.int .i64 0)).setCell ⟨W.heap.size, 3, none⟩ (.int .i64 0)) = W4 := ⟨_, rfl⟩
          rw [hW4] at hB4 hr4 ⊢
          clear hW4
          obtain ⟨e0, e1, e2, e3⟩ := tok_cells hr4
          refine bodyPost_ret (v := .tuple #[.agg #[(.int .i64 0), (.string ⟨#[]⟩), (.int .i64 0), (.int .i64 0)], .bool false]) ?_ rfl ⟨by rw [unhide HNT, unhide HOK2]; rfl, hB1.trans hB4⟩
          clear d0 d1 d2 d3 d4 d5
          simp [results, Tryd.results43, go_sem, e0, e1, e2, e3]
end Go.Proofs.YtpdkeggiokebmaaDoor

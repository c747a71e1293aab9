/- lex's number. -/
import Derived.LoopN
import Derived.WalkMore
import Derived.Deep.RegionWith
import Derived.Deep.QuietTactic
import Derived.BigQuiet
import Derived.BigCall
import Derived.BigGuard
import Derived.Test.YtpdkeggiokebmaaDoorCV
import Derived.Test.YtpdkeggiokebmaaDoorPU
import Derived.Test.YtpdkeggiokebmaaDoorN3
namespace Go.Proofs.YtpdkeggiokebmaaDoor
set_option linter.unusedSimpArgs false
set_option linter.unusedVariables false
open Go.RowKit Go.Shelf

attribute [local go_sem] tokV
theorem idx_str (s : ByteArray) (i : Nat) (hi : i < s.size) (W : World) : (Instr.index 9 (.string s) (.int .i64 (i : Int))).run Tryd.prog W = .ok (.int .u8 (gS s i)) W := by
  rw [run_index_string W 9 s .i64 (i : Int) Tryd.underlying9, dif_pos ⟨by omega, by omega⟩]
  have e : ((s[(i : Int).toNat]'(by simpa using hi)).toNat : Int) = gS s i := by
    have h2 : i < s.data.size := hi
    rw [gS, Array.getElem?_eq_getElem h2]
    simp
    rfl
  rw [e]
theorem sub_size (g : Nat → Int) (a b : Nat) : (strOfNums (sub g a b)).size = b - a := by
  have h1 := congrArg List.length (nums_list (sub g a b))
  rw [List.length_map, sub_length] at h1
  rw [← h1, Lib.size_eq]

/-- Where the machine stands behind a number. -/
def numAt (g : Nat → Int) (len at' : Nat) : Int := if numOk g len at' = true then (numEnd g len at' : Int) else (at' : Int)
set_option maxRecDepth 100000 in
set_option maxHeartbeats 4000000 in
theorem number_any (M c : Nat) (a : Option Addr) (len cap : Nat) (g : Nat → Int) (hg : ∀ j, 0 ≤ g j ∧ g j ≤ 255) (at' : Nat) (ov : Value) (W : World) (h : MAt W M (.slice a len cap) at' ov) (hS : Sl W c (.slice a len cap) len g) (hc : c < W.heap.size) (hat : at' < len) (hD : isD (g at') = true) (hlen : len ≤ 1099511627776) (hE : ErrG W 2) :
    Calls Tryd.prog 51 #[.pointer (some ⟨M, 0, none⟩)] W fun x W' => x = .returned (.tuple #[numT g len at', .bool (numOk g len at')]) ∧ MAt W' M (.slice a len cap) (numAt g len at') ov ∧ Fr (fun k => k = M) W W' := by
  obtain ⟨W1, hW1⟩ : ∃ W1, W.alloc (.cells #[.int .i64 0, .string ⟨#[]⟩, .int .i64 0, .int .i64 0] 33) = W1 := ⟨_, rfl⟩
  have hB1 : Below W.heap.size W W1 := by rw [← hW1]; exact (Below.refl _ W).alloc (Nat.le_refl _) _
  have hz1 : W1.heap.size = W.heap.size + 1 := by rw [← hW1]; simp
  have hr1 : W1.heap[W.heap.size]? = some (.cells #[.int .i64 0, .string ⟨#[]⟩, .int .i64 0, .int .i64 0] 33) := by rw [← hW1]; exact World.alloc_heap_new W _
  have hM1 := h.below hB1 h.lt
  have hS1 := hS.keep (B := W1) (fun k e => by subst e; exact hB1.block k hc)
  have hE1 : ErrG W1 2 := by
    obtain ⟨ev, hv, hev⟩ := hE
    exact ⟨ev, (hB1.cell (p := ⟨2, 0, none⟩) (World.block_lt_of_cell? W _ hv)).trans hv, hev⟩
  have c0 := hM1.c0
  have c1 := hM1.c1
  have hml := h.lt
  have he := stopI_spec (p := isD) (g := g) (len := len) (i := at') (by omega)
  have hst := stopI_step (p := isD) (g := g) hat hD
  have he1 := (stopI_spec (p := isD) (g := g) (len := len) (i := at' + 1) (by omega)).1
  rw [← hst] at he1
  obtain ⟨e, hee⟩ : ∃ e, numEnd g len at' = e := ⟨_, rfl⟩
  have hee' : stopI isD g len at' = e := hee
  rw [hee'] at he he1
  obtain ⟨s1, s2, s3, s4⟩ := he
  obtain ⟨sv', hsl, hcv0⟩ := cut_conv hS1 (by omega : at' ≤ e) s2
  have hcv : ∀ N, (convert 22 9 sv').run Tryd.prog (W1.drewN N) = .ok (.string (strOfNums (sub g at' e))) (W1.drewN N) := fun N => hcv0 _ (hS1.keep (fun _ _ => rfl))
  obtain ⟨off, rfl, hcp, hmx, hcs⟩ := unhide (sl_cells hS1) (by omega)
  unfold maxLen at hmx
  have HPU : Hid (∀ N, Calls Tryd.prog 67 #[.string (strOfNums (sub g at' e)), .int .i64 10, .int .i64 64] (W1.drewN N) fun x W' => ∃ z er, x = .returned (.tuple #[.int .u64 z, er]) ∧ ((er = .nilIface ∧ z = decV g at' (e - at') ∧ z ≤ 18446744073709551615) ∨ ((∃ tp p, er = .iface tp p) ∧ 18446744073709551615 < decV g at' (e - at'))) ∧ Below W1.heap.size W1 W') := fun N =>
    (pu_num (by omega) (by omega) s3 (W1.drewN N) hE1).mono fun x W' ⟨z, er, h1, h2, h3⟩ => ⟨z, er, h1, h2, Below.trans (show Below W1.heap.size W1 (W1.drewN N) from ⟨rfl, rfl, rfl, Nat.le_refl _, fun _ _ => rfl⟩) h3⟩
  have HPO : Hid (∀ v, decV g at' (e - at') = v → v ≤ 9007199254740991 → ∀ N, Calls Tryd.prog 67 #[.string (strOfNums (sub g at' e)), .int .i64 10, .int .i64 64] (W1.drewN N) fun x W' => x = .returned (.tuple #[.int .u64 v, .nilIface]) ∧ Below W1.heap.size W1 W') := fun v hv hl N => (unhide HPU N).mono fun x W' ⟨z, er, h1, h2, h3⟩ => by
    rcases h2 with ⟨rfl, rfl, _⟩ | ⟨_, h⟩
    · rw [h1, hv]; exact ⟨rfl, h3⟩
    · omega
  have HOK : Hid (numOk g len at' = (decide (decV g at' (e - at') ≤ 9007199254740991) && !(g at' == 48 && decide (at' + 1 < e)) && !(decide (e < len) && isL (g e)))) := by show _ = _; rw [numOk, hee]
  have HNT : Hid (numT g len at' = if numOk g len at' = true then tokV 3 (strOfNums (sub g at' e)) at' e else tokV 0 ⟨#[]⟩ 0 0) := by show _ = _; rw [numT, hee]
  have HNN : Hid (0 ≤ decV g at' (e - at')) := decV_nn fun j hj => s3 (at' + j) (by omega) (by omega)
  have hzs := sub_size g at' e
  have HIX : Hid (∀ w : World, (Instr.index 9 (.string (strOfNums (sub g at' e))) (.int .i64 0)).run Tryd.prog w = .ok (.int .u8 (g at')) w) := fun w => by
    have h1 := idx_str (strOfNums (sub g at' e)) 0 (by omega) w
    rw [sub, gS_nums _ (fun j => hg _) _ 0 (by omega)] at h1
    exact h1
  have HPM : Hid (∀ v, decV g at' (e - at') = v → v ≤ 18446744073709551615 → ∀ N, Calls Tryd.prog 67 #[.string (strOfNums (sub g at' e)), .int .i64 10, .int .i64 64] (W1.drewN N) fun x W' => x = .returned (.tuple #[.int .u64 v, .nilIface]) ∧ Below W1.heap.size W1 W') := fun v hv hl N => (unhide HPU N).mono fun x W' ⟨z, er, h1, h2, h3⟩ => by
    rcases h2 with ⟨rfl, rfl, _⟩ | ⟨_, h⟩
    · rw [h1, hv]; exact ⟨rfl, h3⟩
    · omega
  have HPR : Hid (18446744073709551615 < decV g at' (e - at') → ∀ N, Calls Tryd.prog 67 #[.string (strOfNums (sub g at' e)), .int .i64 10, .int .i64 64] (W1.drewN N) fun x W' => ∃ z tp p, x = .returned (.tuple #[.int .u64 z, .iface tp p]) ∧ Below W1.heap.size W1 W') := fun hl N => (unhide HPU N).mono fun x W' ⟨z, er, h1, h2, h3⟩ => by
    rcases h2 with ⟨rfl, rfl, h⟩ | ⟨⟨tp, p, rfl⟩, h⟩
    · omega
    · exact ⟨z, tp, p, h1, h3⟩
  have HNA : Hid (numAt g len at' = if numOk g len at' = true then (e : Int) else (at' : Int)) := by show _ = _; rw [numAt, hee]
  obtain ⟨S, hSS⟩ : ∃ S, strOfNums (sub g at' e) = S := ⟨_, rfl⟩
  rw [hSS] at hcv HPO HPM HPR HNT hzs HIX
  have hsz : (S.size : Int) = (e : Int) - at' := by omega
  have t54 := Tryd.underlying54
  have a54 := Tryd.isAgg54
  have HS3 := hide s3
  have HS4 := hide s4
  have HCJ := hide hcs
  have HB1 := hide hB1
  have HM1 := hide hM1
  have HR1 := hide hr1
  clear hS hS1 hcs s3 s4 hee hee' hst hcv0 hE hE1 hSS hB1 hM1 hr1 hg HPU
  go_enter Tryd.func51, Tryd.ntmps51
  go_wp2
  clear hW1
  go_loopw [4] (fun t wr => ∃ k : Nat, at' + 1 ≤ k ∧ k ≤ e ∧ t = .int .i64 (k : Int) ∧ wr = W1) (fun t _ => len - (intOf t).toNat)
  case atStart => exact ⟨at' + 1, Nat.le_refl _, he1, by go_num, rfl⟩
  case round =>
    obtain ⟨k, hk1, hk2, rfl, hw⟩ := hrel
    subst wr
    by_cases hke : k < e
    · have hkl : (k : Int) < len := by omega
      have hck := unhide HCJ k (by omega)
      have hDk := unhide HS3 k (by omega) hke
      go_wp2_with (go_at_call 50; refine (isDigit_any _ _).mono ?_; rintro x w' ⟨rfl, hw⟩; subst w')
      exact ⟨⟨k + 1, by omega, by omega, by go_num, trivial⟩, by simp [intOf]; omega⟩
    · obtain rfl : k = e := by omega
      by_cases hkl : k < len
      · have hkl' : (k : Int) < len := by omega
        have hkd : decide ((k : Int) < len) = true := decide_eq_true hkl'
        have hkd' : decide (k < len) = true := decide_eq_true hkl
        have hck := unhide HCJ k hkl
        have hDk : isD (g k) = false := by
          rcases unhide HS4 with h | h
          · omega
          · exact h
        by_cases hbig : 18446744073709551615 < decV g at' (k - at')
        · have HOK2 : Hid (numOk g len at' = false) := by show _ = _; rw [unhide HOK, show decide (decV g at' (k - at') ≤ 9007199254740991) = false from decide_eq_false (by omega)]; simp
          go_wp2_with (go_at_call 50; refine (isDigit_any _ _).mono ?_; rintro x w' ⟨rfl, hw⟩; subst w')
          go_quiet (fail)
          go_wp2_with (first | (
             go_at_call 67
             refine (unhide HPR hbig nq).mono ?_
             rintro x W2 ⟨z, tp, p, rfl, hB2⟩
             have hM2 := (unhide HM1).below hB2 (by omega)
             have hr2 : W2.heap[W.heap.size]? = some (.cells #[.int .i64 0, .string ⟨#[]⟩, .int .i64 0, .int .i64 0] 33) := (hB2.block W.heap.size (by omega)).trans (unhide HR1)
             have m0 := hM2.c0
             have m1 := hM2.c1
             have d0 : W2.cell? ⟨W.heap.size, 0, none⟩ = some (.int .i64 0) := (by rw [Lib.cell_of_heap hr2]; rfl)
             have d1 : W2.cell? ⟨W.heap.size, 1, none⟩ = some (.string ⟨#[]⟩) := (by rw [Lib.cell_of_heap hr2]; rfl)
             have d2 : W2.cell? ⟨W.heap.size, 2, none⟩ = some (.int .i64 0) := (by rw [Lib.cell_of_heap hr2]; rfl)
             have d3 : W2.cell? ⟨W.heap.size, 3, none⟩ = some (.int .i64 0) := (by rw [Lib.cell_of_heap hr2]; rfl)
             have d4 := Lib.frozen_of_heap hr2
             have d5 : W2.shape? W.heap.size = some (33, 4) := (by simp [World.shape?, hr2])
             have HB2 := hide ((unhide HB1).trans (hB2.mono (unhide HB1).size))
             have HM2 := hide hM2
             have HR2 := hide hr2
             have hz2 := hB2.size
             have hix := unhide HIX W2
             clear hB2 hM2 hr2) | (go_at_call 48; refine (isLetter_any _ _).mono ?_; rintro x w' ⟨rfl, hw⟩; subst w') | (
             go_at_call 66
             refine (take_any M _ ov at' 3 _ _ W2 (unhide HM2)).mono ?_
             rintro x W3 ⟨rfl, hM3, hF3⟩
             have hr3 : W3.heap[W.heap.size]? = some (.cells #[.int .i64 0, .string ⟨#[]⟩, .int .i64 0, .int .i64 0] 33) := (hF3.block W.heap.size (by omega) (by omega)).trans (unhide HR2)
             clear d0 d1 d2 d3 d4 d5
             have d0 : W3.cell? ⟨W.heap.size, 0, none⟩ = some (.int .i64 0) := (by rw [Lib.cell_of_heap hr3]; rfl)
             have d1 : W3.cell? ⟨W.heap.size, 1, none⟩ = some (.string ⟨#[]⟩) := (by rw [Lib.cell_of_heap hr3]; rfl)
             have d2 : W3.cell? ⟨W.heap.size, 2, none⟩ = some (.int .i64 0) := (by rw [Lib.cell_of_heap hr3]; rfl)
             have d3 : W3.cell? ⟨W.heap.size, 3, none⟩ = some (.int .i64 0) := (by rw [Lib.cell_of_heap hr3]; rfl)
             have d4 := Lib.frozen_of_heap hr3
             have d5 : W3.shape? W.heap.size = some (33, 4) := (by simp [World.shape?, hr3])
             have HR3 := hide hr3
             have HM3 := hide hM3
             have HF3 := hide hF3
             clear hr3 hM3 hF3))
          have hB4 := put4_below (W := W2) (Nat.le_refl W.heap.size) (.int .i64 0) (.string ⟨#[]⟩) (.int .i64 0) (.int .i64 0)
          have hr4 := put4_heap (unhide HR2) (.int .i64 0) (.string ⟨#[]⟩) (.int .i64 0) (.int .i64 0)
          obtain ⟨W4, hW4⟩ : ∃ W4, ((((W2.setCell ⟨W.heap.size, 0, none⟩ (.int .i64 0)).setCell ⟨W.heap.size, 1, none⟩ (.string ⟨#[]⟩)).setCell ⟨W.heap.size, 2, none⟩ (.int .i64 0)).setCell ⟨W.heap.size, 3, none⟩ (.int .i64 0)) = W4 := ⟨_, rfl⟩
          rw [hW4] at hB4 hr4 ⊢
          clear hW4
          obtain ⟨e0, e1, e2, e3⟩ := tok_cells hr4
          refine bodyPost_ret (v := .tuple #[.agg #[(.int .i64 0), (.string ⟨#[]⟩), (.int .i64 0), (.int .i64 0)], .bool false]) ?_ rfl ⟨by rw [unhide HNT, unhide HOK2]; rfl, by rw [unhide HNA, unhide HOK2]; exact (unhide HM2).below hB4 hml, ((Fr.refl _ W).below (unhide HB2)).below hB4⟩
          clear d0 d1 d2 d3 d4 d5
          simp [results, Tryd.results51, go_sem, e0, e1, e2, e3]
        obtain ⟨v, hv⟩ : ∃ v, decV g at' (k - at') = v := ⟨_, rfl⟩
        have hnn := unhide HNN
        have hOK := unhide HOK
        rw [hv] at hnn hOK hbig
        by_cases hle : v ≤ 9007199254740991
        · have hle1 : decide (v ≤ 9007199254740991) = true := decide_eq_true hle
          have hle2 : decide (9007199254740991 < v) = false := decide_eq_false (by omega)
          by_cases h48 : g at' = 48
          · have b48 : (g at' == 48) = true := by rw [h48]; rfl
            by_cases hm : at' + 1 < k
            · have hm1 : decide (at' + 1 < k) = true := decide_eq_true hm
              have hm2 : decide ((1 : Int) < (S.size : Int)) = true := decide_eq_true (by omega)
              have HOK2 : Hid (numOk g len at' = false) := by show _ = _; rw [hOK, b48, hm1]; simp
              clear hle1 hOK
              go_wp2_with (go_at_call 50; refine (isDigit_any _ _).mono ?_; rintro x w' ⟨rfl, hw⟩; subst w')
              go_quiet (fail)
              go_wp2_with (first | (
                 go_at_call 67
                 refine (unhide HPO v hv hle nq).mono ?_
                 rintro x W2 ⟨rfl, hB2⟩
                 have hM2 := (unhide HM1).below hB2 (by omega)
                 have hr2 : W2.heap[W.heap.size]? = some (.cells #[.int .i64 0, .string ⟨#[]⟩, .int .i64 0, .int .i64 0] 33) := (hB2.block W.heap.size (by omega)).trans (unhide HR1)
                 have m0 := hM2.c0
                 have m1 := hM2.c1
                 have hck9 : W2.cell? ⟨c, off + k, none⟩ = some (.int .u8 (g k)) := (hB2.cell (p := ⟨c, off + k, none⟩) (by show c < W1.heap.size; omega)).trans (unhide HCJ k hkl)
                 have d0 : W2.cell? ⟨W.heap.size, 0, none⟩ = some (.int .i64 0) := (by rw [Lib.cell_of_heap hr2]; rfl)
                 have d1 : W2.cell? ⟨W.heap.size, 1, none⟩ = some (.string ⟨#[]⟩) := (by rw [Lib.cell_of_heap hr2]; rfl)
                 have d2 : W2.cell? ⟨W.heap.size, 2, none⟩ = some (.int .i64 0) := (by rw [Lib.cell_of_heap hr2]; rfl)
                 have d3 : W2.cell? ⟨W.heap.size, 3, none⟩ = some (.int .i64 0) := (by rw [Lib.cell_of_heap hr2]; rfl)
                 have d4 := Lib.frozen_of_heap hr2
                 have d5 : W2.shape? W.heap.size = some (33, 4) := (by simp [World.shape?, hr2])
                 have HB2 := hide ((unhide HB1).trans (hB2.mono (unhide HB1).size))
                 have HM2 := hide hM2
                 have HR2 := hide hr2
                 have hz2 := hB2.size
                 have hix := unhide HIX W2
                 clear hB2 hM2 hr2) | (go_at_call 48; refine (isLetter_any _ _).mono ?_; rintro x w' ⟨rfl, hw⟩; subst w') | (
                 go_at_call 66
                 refine (take_any M _ ov at' 3 _ _ W2 (unhide HM2)).mono ?_
                 rintro x W3 ⟨rfl, hM3, hF3⟩
                 have hr3 : W3.heap[W.heap.size]? = some (.cells #[.int .i64 0, .string ⟨#[]⟩, .int .i64 0, .int .i64 0] 33) := (hF3.block W.heap.size (by omega) (by omega)).trans (unhide HR2)
                 clear d0 d1 d2 d3 d4 d5
                 have d0 : W3.cell? ⟨W.heap.size, 0, none⟩ = some (.int .i64 0) := (by rw [Lib.cell_of_heap hr3]; rfl)
                 have d1 : W3.cell? ⟨W.heap.size, 1, none⟩ = some (.string ⟨#[]⟩) := (by rw [Lib.cell_of_heap hr3]; rfl)
                 have d2 : W3.cell? ⟨W.heap.size, 2, none⟩ = some (.int .i64 0) := (by rw [Lib.cell_of_heap hr3]; rfl)
                 have d3 : W3.cell? ⟨W.heap.size, 3, none⟩ = some (.int .i64 0) := (by rw [Lib.cell_of_heap hr3]; rfl)
                 have d4 := Lib.frozen_of_heap hr3
                 have d5 : W3.shape? W.heap.size = some (33, 4) := (by simp [World.shape?, hr3])
                 have HR3 := hide hr3
                 have HM3 := hide hM3
                 have HF3 := hide hF3
                 clear hr3 hM3 hF3))
              have hB4 := put4_below (W := W2) (Nat.le_refl W.heap.size) (.int .i64 0) (.string ⟨#[]⟩) (.int .i64 0) (.int .i64 0)
              have hr4 := put4_heap (unhide HR2) (.int .i64 0) (.string ⟨#[]⟩) (.int .i64 0) (.int .i64 0)
              obtain ⟨W4, hW4⟩ : ∃ W4, ((((W2.setCell ⟨W.heap.size, 0, none⟩ (.int .i64 0)).setCell ⟨W.heap.size, 1, none⟩ (.string ⟨#[]⟩)).setCell ⟨W.heap.size, 2, none⟩ (.int .i64 0)).setCell ⟨W.heap.size, 3, none⟩ (.int .i64 0)) = W4 := ⟨_, rfl⟩
              rw [hW4] at hB4 hr4 ⊢
              clear hW4
              obtain ⟨e0, e1, e2, e3⟩ := tok_cells hr4
              refine bodyPost_ret (v := .tuple #[.agg #[(.int .i64 0), (.string ⟨#[]⟩), (.int .i64 0), (.int .i64 0)], .bool false]) ?_ rfl ⟨by rw [unhide HNT, unhide HOK2]; rfl, by rw [unhide HNA, unhide HOK2]; exact (unhide HM2).below hB4 hml, ((Fr.refl _ W).below (unhide HB2)).below hB4⟩
              clear d0 d1 d2 d3 d4 d5
              simp [results, Tryd.results51, go_sem, e0, e1, e2, e3]
            · have hm1 : decide (at' + 1 < k) = false := decide_eq_false hm
              have hm2 : decide ((1 : Int) < (S.size : Int)) = false := decide_eq_false (by omega)
              cases hL : isL (g k) with
              | true =>
                have HOK2 : Hid (numOk g len at' = false) := by show _ = _; rw [hOK, hL, hkd']; simp
                clear hle1 hOK
                go_wp2_with (go_at_call 50; refine (isDigit_any _ _).mono ?_; rintro x w' ⟨rfl, hw⟩; subst w')
                go_quiet (fail)
                go_wp2_with (first | (
                   go_at_call 67
                   refine (unhide HPO v hv hle nq).mono ?_
                   rintro x W2 ⟨rfl, hB2⟩
                   have hM2 := (unhide HM1).below hB2 (by omega)
                   have hr2 : W2.heap[W.heap.size]? = some (.cells #[.int .i64 0, .string ⟨#[]⟩, .int .i64 0, .int .i64 0] 33) := (hB2.block W.heap.size (by omega)).trans (unhide HR1)
                   have m0 := hM2.c0
                   have m1 := hM2.c1
                   have hck9 : W2.cell? ⟨c, off + k, none⟩ = some (.int .u8 (g k)) := (hB2.cell (p := ⟨c, off + k, none⟩) (by show c < W1.heap.size; omega)).trans (unhide HCJ k hkl)
                   have d0 : W2.cell? ⟨W.heap.size, 0, none⟩ = some (.int .i64 0) := (by rw [Lib.cell_of_heap hr2]; rfl)
                   have d1 : W2.cell? ⟨W.heap.size, 1, none⟩ = some (.string ⟨#[]⟩) := (by rw [Lib.cell_of_heap hr2]; rfl)
                   have d2 : W2.cell? ⟨W.heap.size, 2, none⟩ = some (.int .i64 0) := (by rw [Lib.cell_of_heap hr2]; rfl)
                   have d3 : W2.cell? ⟨W.heap.size, 3, none⟩ = some (.int .i64 0) := (by rw [Lib.cell_of_heap hr2]; rfl)
                   have d4 := Lib.frozen_of_heap hr2
                   have d5 : W2.shape? W.heap.size = some (33, 4) := (by simp [World.shape?, hr2])
                   have HB2 := hide ((unhide HB1).trans (hB2.mono (unhide HB1).size))
                   have HM2 := hide hM2
                   have HR2 := hide hr2
                   have hz2 := hB2.size
                   have hix := unhide HIX W2
                   clear hB2 hM2 hr2) | (go_at_call 48; refine (isLetter_any _ _).mono ?_; rintro x w' ⟨rfl, hw⟩; subst w') | (
                   go_at_call 66
                   refine (take_any M _ ov at' 3 _ _ W2 (unhide HM2)).mono ?_
                   rintro x W3 ⟨rfl, hM3, hF3⟩
                   have hr3 : W3.heap[W.heap.size]? = some (.cells #[.int .i64 0, .string ⟨#[]⟩, .int .i64 0, .int .i64 0] 33) := (hF3.block W.heap.size (by omega) (by omega)).trans (unhide HR2)
                   clear d0 d1 d2 d3 d4 d5
                   have d0 : W3.cell? ⟨W.heap.size, 0, none⟩ = some (.int .i64 0) := (by rw [Lib.cell_of_heap hr3]; rfl)
                   have d1 : W3.cell? ⟨W.heap.size, 1, none⟩ = some (.string ⟨#[]⟩) := (by rw [Lib.cell_of_heap hr3]; rfl)
                   have d2 : W3.cell? ⟨W.heap.size, 2, none⟩ = some (.int .i64 0) := (by rw [Lib.cell_of_heap hr3]; rfl)
                   have d3 : W3.cell? ⟨W.heap.size, 3, none⟩ = some (.int .i64 0) := (by rw [Lib.cell_of_heap hr3]; rfl)
                   have d4 := Lib.frozen_of_heap hr3
                   have d5 : W3.shape? W.heap.size = some (33, 4) := (by simp [World.shape?, hr3])
                   have HR3 := hide hr3
                   have HM3 := hide hM3
                   have HF3 := hide hF3
                   clear hr3 hM3 hF3))
                have hB4 := put4_below (W := W2) (Nat.le_refl W.heap.size) (.int .i64 0) (.string ⟨#[]⟩) (.int .i64 0) (.int .i64 0)
                have hr4 := put4_heap (unhide HR2) (.int .i64 0) (.string ⟨#[]⟩) (.int .i64 0) (.int .i64 0)
                obtain ⟨W4, hW4⟩ : ∃ W4, ((((W2.setCell ⟨W.heap.size, 0, none⟩ (.int .i64 0)).setCell ⟨W.heap.size, 1, none⟩ (.string ⟨#[]⟩)).setCell ⟨W.heap.size, 2, none⟩ (.int .i64 0)).setCell ⟨W.heap.size, 3, none⟩ (.int .i64 0)) = W4 := ⟨_, rfl⟩
                rw [hW4] at hB4 hr4 ⊢
                clear hW4
                obtain ⟨e0, e1, e2, e3⟩ := tok_cells hr4
                refine bodyPost_ret (v := .tuple #[.agg #[(.int .i64 0), (.string ⟨#[]⟩), (.int .i64 0), (.int .i64 0)], .bool false]) ?_ rfl ⟨by rw [unhide HNT, unhide HOK2]; rfl, by rw [unhide HNA, unhide HOK2]; exact (unhide HM2).below hB4 hml, ((Fr.refl _ W).below (unhide HB2)).below hB4⟩
                clear d0 d1 d2 d3 d4 d5
                simp [results, Tryd.results51, go_sem, e0, e1, e2, e3]
              | false =>
                have HOK2 : Hid (numOk g len at' = true) := by show _ = _; rw [hOK, hL, hle1, b48, hm1]; simp
                clear hle1 hOK
                go_wp2_with (go_at_call 50; refine (isDigit_any _ _).mono ?_; rintro x w' ⟨rfl, hw⟩; subst w')
                go_quiet (fail)
                go_wp2_with (first | (
                   go_at_call 67
                   refine (unhide HPO v hv hle nq).mono ?_
                   rintro x W2 ⟨rfl, hB2⟩
                   have hM2 := (unhide HM1).below hB2 (by omega)
                   have hr2 : W2.heap[W.heap.size]? = some (.cells #[.int .i64 0, .string ⟨#[]⟩, .int .i64 0, .int .i64 0] 33) := (hB2.block W.heap.size (by omega)).trans (unhide HR1)
                   have m0 := hM2.c0
                   have m1 := hM2.c1
                   have hck9 : W2.cell? ⟨c, off + k, none⟩ = some (.int .u8 (g k)) := (hB2.cell (p := ⟨c, off + k, none⟩) (by show c < W1.heap.size; omega)).trans (unhide HCJ k hkl)
                   have d0 : W2.cell? ⟨W.heap.size, 0, none⟩ = some (.int .i64 0) := (by rw [Lib.cell_of_heap hr2]; rfl)
                   have d1 : W2.cell? ⟨W.heap.size, 1, none⟩ = some (.string ⟨#[]⟩) := (by rw [Lib.cell_of_heap hr2]; rfl)
                   have d2 : W2.cell? ⟨W.heap.size, 2, none⟩ = some (.int .i64 0) := (by rw [Lib.cell_of_heap hr2]; rfl)
                   have d3 : W2.cell? ⟨W.heap.size, 3, none⟩ = some (.int .i64 0) := (by rw [Lib.cell_of_heap hr2]; rfl)
                   have d4 := Lib.frozen_of_heap hr2
                   have d5 : W2.shape? W.heap.size = some (33, 4) := (by simp [World.shape?, hr2])
                   have HB2 := hide ((unhide HB1).trans (hB2.mono (unhide HB1).size))
                   have HM2 := hide hM2
                   have HR2 := hide hr2
                   have hz2 := hB2.size
                   have hix := unhide HIX W2
                   clear hB2 hM2 hr2) | (go_at_call 48; refine (isLetter_any _ _).mono ?_; rintro x w' ⟨rfl, hw⟩; subst w') | (
                   go_at_call 66
                   refine (take_any M _ ov at' 3 _ _ W2 (unhide HM2)).mono ?_
                   rintro x W3 ⟨rfl, hM3, hF3⟩
                   have hr3 : W3.heap[W.heap.size]? = some (.cells #[.int .i64 0, .string ⟨#[]⟩, .int .i64 0, .int .i64 0] 33) := (hF3.block W.heap.size (by omega) (by omega)).trans (unhide HR2)
                   clear d0 d1 d2 d3 d4 d5
                   have d0 : W3.cell? ⟨W.heap.size, 0, none⟩ = some (.int .i64 0) := (by rw [Lib.cell_of_heap hr3]; rfl)
                   have d1 : W3.cell? ⟨W.heap.size, 1, none⟩ = some (.string ⟨#[]⟩) := (by rw [Lib.cell_of_heap hr3]; rfl)
                   have d2 : W3.cell? ⟨W.heap.size, 2, none⟩ = some (.int .i64 0) := (by rw [Lib.cell_of_heap hr3]; rfl)
                   have d3 : W3.cell? ⟨W.heap.size, 3, none⟩ = some (.int .i64 0) := (by rw [Lib.cell_of_heap hr3]; rfl)
                   have d4 := Lib.frozen_of_heap hr3
                   have d5 : W3.shape? W.heap.size = some (33, 4) := (by simp [World.shape?, hr3])
                   have HR3 := hide hr3
                   have HM3 := hide hM3
                   have HF3 := hide hF3
                   clear hr3 hM3 hF3))
                have hB4 := put4_below (W := W3) (Nat.le_refl W.heap.size) (.int .i64 3) (.string S) (.int .i64 (at' : Int)) (.int .i64 (k : Int))
                have hr4 := put4_heap (unhide HR3) (.int .i64 3) (.string S) (.int .i64 (at' : Int)) (.int .i64 (k : Int))
                obtain ⟨W4, hW4⟩ : ∃ W4, ((((W3.setCell ⟨W.heap.size, 0, none⟩ (.int .i64 3)).setCell ⟨W.heap.size, 1, none⟩ (.string S)).setCell ⟨W.heap.size, 2, none⟩ (.int .i64 (at' : Int))).setCell ⟨W.heap.size, 3, none⟩ (.int .i64 (k : Int))) = W4 := ⟨_, rfl⟩
                rw [hW4] at hB4 hr4 ⊢
                clear hW4
                obtain ⟨e0, e1, e2, e3⟩ := tok_cells hr4
                refine bodyPost_ret (v := .tuple #[.agg #[(.int .i64 3), (.string S), (.int .i64 (at' : Int)), (.int .i64 (k : Int))], .bool true]) ?_ rfl ⟨by rw [unhide HNT, unhide HOK2]; rfl, by rw [unhide HNA, unhide HOK2]; exact (unhide HM3).below hB4 hml, (((Fr.refl _ W).below (unhide HB2)).trans (unhide HF3)).below hB4⟩
                clear d0 d1 d2 d3 d4 d5
                simp [results, Tryd.results51, go_sem, e0, e1, e2, e3]
          · have b48 : (g at' == 48) = false := beq_eq_false_iff_ne.2 h48
            cases hL : isL (g k) with
            | true =>
              have HOK2 : Hid (numOk g len at' = false) := by show _ = _; rw [hOK, hL, hkd']; simp
              clear hle1 hOK
              go_wp2_with (go_at_call 50; refine (isDigit_any _ _).mono ?_; rintro x w' ⟨rfl, hw⟩; subst w')
              go_quiet (fail)
              go_wp2_with (first | (
                 go_at_call 67
                 refine (unhide HPO v hv hle nq).mono ?_
                 rintro x W2 ⟨rfl, hB2⟩
                 have hM2 := (unhide HM1).below hB2 (by omega)
                 have hr2 : W2.heap[W.heap.size]? = some (.cells #[.int .i64 0, .string ⟨#[]⟩, .int .i64 0, .int .i64 0] 33) := (hB2.block W.heap.size (by omega)).trans (unhide HR1)
                 have m0 := hM2.c0
                 have m1 := hM2.c1
                 have hck9 : W2.cell? ⟨c, off + k, none⟩ = some (.int .u8 (g k)) := (hB2.cell (p := ⟨c, off + k, none⟩) (by show c < W1.heap.size; omega)).trans (unhide HCJ k hkl)
                 have d0 : W2.cell? ⟨W.heap.size, 0, none⟩ = some (.int .i64 0) := (by rw [Lib.cell_of_heap hr2]; rfl)
                 have d1 : W2.cell? ⟨W.heap.size, 1, none⟩ = some (.string ⟨#[]⟩) := (by rw [Lib.cell_of_heap hr2]; rfl)
                 have d2 : W2.cell? ⟨W.heap.size, 2, none⟩ = some (.int .i64 0) := (by rw [Lib.cell_of_heap hr2]; rfl)
                 have d3 : W2.cell? ⟨W.heap.size, 3, none⟩ = some (.int .i64 0) := (by rw [Lib.cell_of_heap hr2]; rfl)
                 have d4 := Lib.frozen_of_heap hr2
                 have d5 : W2.shape? W.heap.size = some (33, 4) := (by simp [World.shape?, hr2])
                 have HB2 := hide ((unhide HB1).trans (hB2.mono (unhide HB1).size))
                 have HM2 := hide hM2
                 have HR2 := hide hr2
                 have hz2 := hB2.size
                 have hix := unhide HIX W2
                 clear hB2 hM2 hr2) | (go_at_call 48; refine (isLetter_any _ _).mono ?_; rintro x w' ⟨rfl, hw⟩; subst w') | (
                 go_at_call 66
                 refine (take_any M _ ov at' 3 _ _ W2 (unhide HM2)).mono ?_
                 rintro x W3 ⟨rfl, hM3, hF3⟩
                 have hr3 : W3.heap[W.heap.size]? = some (.cells #[.int .i64 0, .string ⟨#[]⟩, .int .i64 0, .int .i64 0] 33) := (hF3.block W.heap.size (by omega) (by omega)).trans (unhide HR2)
                 clear d0 d1 d2 d3 d4 d5
                 have d0 : W3.cell? ⟨W.heap.size, 0, none⟩ = some (.int .i64 0) := (by rw [Lib.cell_of_heap hr3]; rfl)
                 have d1 : W3.cell? ⟨W.heap.size, 1, none⟩ = some (.string ⟨#[]⟩) := (by rw [Lib.cell_of_heap hr3]; rfl)
                 have d2 : W3.cell? ⟨W.heap.size, 2, none⟩ = some (.int .i64 0) := (by rw [Lib.cell_of_heap hr3]; rfl)
                 have d3 : W3.cell? ⟨W.heap.size, 3, none⟩ = some (.int .i64 0) := (by rw [Lib.cell_of_heap hr3]; rfl)
                 have d4 := Lib.frozen_of_heap hr3
                 have d5 : W3.shape? W.heap.size = some (33, 4) := (by simp [World.shape?, hr3])
                 have HR3 := hide hr3
                 have HM3 := hide hM3
                 have HF3 := hide hF3
                 clear hr3 hM3 hF3))
              have hB4 := put4_below (W := W2) (Nat.le_refl W.heap.size) (.int .i64 0) (.string ⟨#[]⟩) (.int .i64 0) (.int .i64 0)
              have hr4 := put4_heap (unhide HR2) (.int .i64 0) (.string ⟨#[]⟩) (.int .i64 0) (.int .i64 0)
              obtain ⟨W4, hW4⟩ : ∃ W4, ((((W2.setCell ⟨W.heap.size, 0, none⟩ (.int .i64 0)).setCell ⟨W.heap.size, 1, none⟩ (.string ⟨#[]⟩)).setCell ⟨W.heap.size, 2, none⟩ (.int .i64 0)).setCell ⟨W.heap.size, 3, none⟩ (.int .i64 0)) = W4 := ⟨_, rfl⟩
              rw [hW4] at hB4 hr4 ⊢
              clear hW4
              obtain ⟨e0, e1, e2, e3⟩ := tok_cells hr4
              refine bodyPost_ret (v := .tuple #[.agg #[(.int .i64 0), (.string ⟨#[]⟩), (.int .i64 0), (.int .i64 0)], .bool false]) ?_ rfl ⟨by rw [unhide HNT, unhide HOK2]; rfl, by rw [unhide HNA, unhide HOK2]; exact (unhide HM2).below hB4 hml, ((Fr.refl _ W).below (unhide HB2)).below hB4⟩
              clear d0 d1 d2 d3 d4 d5
              simp [results, Tryd.results51, go_sem, e0, e1, e2, e3]
            | false =>
              have HOK2 : Hid (numOk g len at' = true) := by show _ = _; rw [hOK, hL, hle1, b48]; simp
              clear hle1 hOK
              go_wp2_with (go_at_call 50; refine (isDigit_any _ _).mono ?_; rintro x w' ⟨rfl, hw⟩; subst w')
              go_quiet (fail)
              go_wp2_with (first | (
                 go_at_call 67
                 refine (unhide HPO v hv hle nq).mono ?_
                 rintro x W2 ⟨rfl, hB2⟩
                 have hM2 := (unhide HM1).below hB2 (by omega)
                 have hr2 : W2.heap[W.heap.size]? = some (.cells #[.int .i64 0, .string ⟨#[]⟩, .int .i64 0, .int .i64 0] 33) := (hB2.block W.heap.size (by omega)).trans (unhide HR1)
                 have m0 := hM2.c0
                 have m1 := hM2.c1
                 have hck9 : W2.cell? ⟨c, off + k, none⟩ = some (.int .u8 (g k)) := (hB2.cell (p := ⟨c, off + k, none⟩) (by show c < W1.heap.size; omega)).trans (unhide HCJ k hkl)
                 have d0 : W2.cell? ⟨W.heap.size, 0, none⟩ = some (.int .i64 0) := (by rw [Lib.cell_of_heap hr2]; rfl)
                 have d1 : W2.cell? ⟨W.heap.size, 1, none⟩ = some (.string ⟨#[]⟩) := (by rw [Lib.cell_of_heap hr2]; rfl)
                 have d2 : W2.cell? ⟨W.heap.size, 2, none⟩ = some (.int .i64 0) := (by rw [Lib.cell_of_heap hr2]; rfl)
                 have d3 : W2.cell? ⟨W.heap.size, 3, none⟩ = some (.int .i64 0) := (by rw [Lib.cell_of_heap hr2]; rfl)
                 have d4 := Lib.frozen_of_heap hr2
                 have d5 : W2.shape? W.heap.size = some (33, 4) := (by simp [World.shape?, hr2])
                 have HB2 := hide ((unhide HB1).trans (hB2.mono (unhide HB1).size))
                 have HM2 := hide hM2
                 have HR2 := hide hr2
                 have hz2 := hB2.size
                 have hix := unhide HIX W2
                 clear hB2 hM2 hr2) | (go_at_call 48; refine (isLetter_any _ _).mono ?_; rintro x w' ⟨rfl, hw⟩; subst w') | (
                 go_at_call 66
                 refine (take_any M _ ov at' 3 _ _ W2 (unhide HM2)).mono ?_
                 rintro x W3 ⟨rfl, hM3, hF3⟩
                 have hr3 : W3.heap[W.heap.size]? = some (.cells #[.int .i64 0, .string ⟨#[]⟩, .int .i64 0, .int .i64 0] 33) := (hF3.block W.heap.size (by omega) (by omega)).trans (unhide HR2)
                 clear d0 d1 d2 d3 d4 d5
                 have d0 : W3.cell? ⟨W.heap.size, 0, none⟩ = some (.int .i64 0) := (by rw [Lib.cell_of_heap hr3]; rfl)
                 have d1 : W3.cell? ⟨W.heap.size, 1, none⟩ = some (.string ⟨#[]⟩) := (by rw [Lib.cell_of_heap hr3]; rfl)
                 have d2 : W3.cell? ⟨W.heap.size, 2, none⟩ = some (.int .i64 0) := (by rw [Lib.cell_of_heap hr3]; rfl)
                 have d3 : W3.cell? ⟨W.heap.size, 3, none⟩ = some (.int .i64 0) := (by rw [Lib.cell_of_heap hr3]; rfl)
                 have d4 := Lib.frozen_of_heap hr3
                 have d5 : W3.shape? W.heap.size = some (33, 4) := (by simp [World.shape?, hr3])
                 have HR3 := hide hr3
                 have HM3 := hide hM3
                 have HF3 := hide hF3
                 clear hr3 hM3 hF3))
              have hB4 := put4_below (W := W3) (Nat.le_refl W.heap.size) (.int .i64 3) (.string S) (.int .i64 (at' : Int)) (.int .i64 (k : Int))
              have hr4 := put4_heap (unhide HR3) (.int .i64 3) (.string S) (.int .i64 (at' : Int)) (.int .i64 (k : Int))
              obtain ⟨W4, hW4⟩ : ∃ W4, ((((W3.setCell ⟨W.heap.size, 0, none⟩ (.int .i64 3)).setCell ⟨W.heap.size, 1, none⟩ (.string S)).setCell ⟨W.heap.size, 2, none⟩ (.int .i64 (at' : Int))).setCell ⟨W.heap.size, 3, none⟩ (.int .i64 (k : Int))) = W4 := ⟨_, rfl⟩
              rw [hW4] at hB4 hr4 ⊢
              clear hW4
              obtain ⟨e0, e1, e2, e3⟩ := tok_cells hr4
              refine bodyPost_ret (v := .tuple #[.agg #[(.int .i64 3), (.string S), (.int .i64 (at' : Int)), (.int .i64 (k : Int))], .bool true]) ?_ rfl ⟨by rw [unhide HNT, unhide HOK2]; rfl, by rw [unhide HNA, unhide HOK2]; exact (unhide HM3).below hB4 hml, (((Fr.refl _ W).below (unhide HB2)).trans (unhide HF3)).below hB4⟩
              clear d0 d1 d2 d3 d4 d5
              simp [results, Tryd.results51, go_sem, e0, e1, e2, e3]
        · have hle1 : decide (v ≤ 9007199254740991) = false := decide_eq_false hle
          have hle2 : decide (9007199254740991 < v) = true := decide_eq_true (by omega)
          have hmid : v ≤ 18446744073709551615 := by omega
          have HOK2 : Hid (numOk g len at' = false) := by show _ = _; rw [hOK, hle1]; simp
          clear hle1 hOK
          go_wp2_with (go_at_call 50; refine (isDigit_any _ _).mono ?_; rintro x w' ⟨rfl, hw⟩; subst w')
          go_quiet (fail)
          go_wp2_with (first | (
             go_at_call 67
             refine (unhide HPM v hv hmid nq).mono ?_
             rintro x W2 ⟨rfl, hB2⟩
             have hM2 := (unhide HM1).below hB2 (by omega)
             have hr2 : W2.heap[W.heap.size]? = some (.cells #[.int .i64 0, .string ⟨#[]⟩, .int .i64 0, .int .i64 0] 33) := (hB2.block W.heap.size (by omega)).trans (unhide HR1)
             have m0 := hM2.c0
             have m1 := hM2.c1
             have d0 : W2.cell? ⟨W.heap.size, 0, none⟩ = some (.int .i64 0) := (by rw [Lib.cell_of_heap hr2]; rfl)
             have d1 : W2.cell? ⟨W.heap.size, 1, none⟩ = some (.string ⟨#[]⟩) := (by rw [Lib.cell_of_heap hr2]; rfl)
             have d2 : W2.cell? ⟨W.heap.size, 2, none⟩ = some (.int .i64 0) := (by rw [Lib.cell_of_heap hr2]; rfl)
             have d3 : W2.cell? ⟨W.heap.size, 3, none⟩ = some (.int .i64 0) := (by rw [Lib.cell_of_heap hr2]; rfl)
             have d4 := Lib.frozen_of_heap hr2
             have d5 : W2.shape? W.heap.size = some (33, 4) := (by simp [World.shape?, hr2])
             have HB2 := hide ((unhide HB1).trans (hB2.mono (unhide HB1).size))
             have HM2 := hide hM2
             have HR2 := hide hr2
             have hz2 := hB2.size
             have hix := unhide HIX W2
             clear hB2 hM2 hr2) | (go_at_call 48; refine (isLetter_any _ _).mono ?_; rintro x w' ⟨rfl, hw⟩; subst w') | (
             go_at_call 66
             refine (take_any M _ ov at' 3 _ _ W2 (unhide HM2)).mono ?_
             rintro x W3 ⟨rfl, hM3, hF3⟩
             have hr3 : W3.heap[W.heap.size]? = some (.cells #[.int .i64 0, .string ⟨#[]⟩, .int .i64 0, .int .i64 0] 33) := (hF3.block W.heap.size (by omega) (by omega)).trans (unhide HR2)
             clear d0 d1 d2 d3 d4 d5
             have d0 : W3.cell? ⟨W.heap.size, 0, none⟩ = some (.int .i64 0) := (by rw [Lib.cell_of_heap hr3]; rfl)
             have d1 : W3.cell? ⟨W.heap.size, 1, none⟩ = some (.string ⟨#[]⟩) := (by rw [Lib.cell_of_heap hr3]; rfl)
             have d2 : W3.cell? ⟨W.heap.size, 2, none⟩ = some (.int .i64 0) := (by rw [Lib.cell_of_heap hr3]; rfl)
             have d3 : W3.cell? ⟨W.heap.size, 3, none⟩ = some (.int .i64 0) := (by rw [Lib.cell_of_heap hr3]; rfl)
             have d4 := Lib.frozen_of_heap hr3
             have d5 : W3.shape? W.heap.size = some (33, 4) := (by simp [World.shape?, hr3])
             have HR3 := hide hr3
             have HM3 := hide hM3
             have HF3 := hide hF3
             clear hr3 hM3 hF3))
          have hB4 := put4_below (W := W2) (Nat.le_refl W.heap.size) (.int .i64 0) (.string ⟨#[]⟩) (.int .i64 0) (.int .i64 0)
          have hr4 := put4_heap (unhide HR2) (.int .i64 0) (.string ⟨#[]⟩) (.int .i64 0) (.int .i64 0)
          obtain ⟨W4, hW4⟩ : ∃ W4, ((((W2.setCell ⟨W.heap.size, 0, none⟩ (.int .i64 0)).setCell ⟨W.heap.size, 1, none⟩ (.string ⟨#[]⟩)).setCell ⟨W.heap.size, 2, none⟩ (.int .i64 0)).setCell ⟨W.heap.size, 3, none⟩ (.int .i64 0)) = W4 := ⟨_, rfl⟩
          rw [hW4] at hB4 hr4 ⊢
          clear hW4
          obtain ⟨e0, e1, e2, e3⟩ := tok_cells hr4
          refine bodyPost_ret (v := .tuple #[.agg #[(.int .i64 0), (.string ⟨#[]⟩), (.int .i64 0), (.int .i64 0)], .bool false]) ?_ rfl ⟨by rw [unhide HNT, unhide HOK2]; rfl, by rw [unhide HNA, unhide HOK2]; exact (unhide HM2).below hB4 hml, ((Fr.refl _ W).below (unhide HB2)).below hB4⟩
          clear d0 d1 d2 d3 d4 d5
          simp [results, Tryd.results51, go_sem, e0, e1, e2, e3]
      · have hkl' : ¬ (k : Int) < len := by omega
        have hkd : decide ((k : Int) < len) = false := decide_eq_false hkl'
        have hkd' : decide (k < len) = false := decide_eq_false hkl
        by_cases hbig : 18446744073709551615 < decV g at' (k - at')
        · have HOK2 : Hid (numOk g len at' = false) := by show _ = _; rw [unhide HOK, show decide (decV g at' (k - at') ≤ 9007199254740991) = false from decide_eq_false (by omega)]; simp
          go_wp2_with (go_at_call 50; refine (isDigit_any _ _).mono ?_; rintro x w' ⟨rfl, hw⟩; subst w')
          go_quiet (fail)
          go_wp2_with (first | (
             go_at_call 67
             refine (unhide HPR hbig nq).mono ?_
             rintro x W2 ⟨z, tp, p, rfl, hB2⟩
             have hM2 := (unhide HM1).below hB2 (by omega)
             have hr2 : W2.heap[W.heap.size]? = some (.cells #[.int .i64 0, .string ⟨#[]⟩, .int .i64 0, .int .i64 0] 33) := (hB2.block W.heap.size (by omega)).trans (unhide HR1)
             have m0 := hM2.c0
             have m1 := hM2.c1
             have d0 : W2.cell? ⟨W.heap.size, 0, none⟩ = some (.int .i64 0) := (by rw [Lib.cell_of_heap hr2]; rfl)
             have d1 : W2.cell? ⟨W.heap.size, 1, none⟩ = some (.string ⟨#[]⟩) := (by rw [Lib.cell_of_heap hr2]; rfl)
             have d2 : W2.cell? ⟨W.heap.size, 2, none⟩ = some (.int .i64 0) := (by rw [Lib.cell_of_heap hr2]; rfl)
             have d3 : W2.cell? ⟨W.heap.size, 3, none⟩ = some (.int .i64 0) := (by rw [Lib.cell_of_heap hr2]; rfl)
             have d4 := Lib.frozen_of_heap hr2
             have d5 : W2.shape? W.heap.size = some (33, 4) := (by simp [World.shape?, hr2])
             have HB2 := hide ((unhide HB1).trans (hB2.mono (unhide HB1).size))
             have HM2 := hide hM2
             have HR2 := hide hr2
             have hz2 := hB2.size
             have hix := unhide HIX W2
             clear hB2 hM2 hr2) | (go_at_call 48; refine (isLetter_any _ _).mono ?_; rintro x w' ⟨rfl, hw⟩; subst w') | (
             go_at_call 66
             refine (take_any M _ ov at' 3 _ _ W2 (unhide HM2)).mono ?_
             rintro x W3 ⟨rfl, hM3, hF3⟩
             have hr3 : W3.heap[W.heap.size]? = some (.cells #[.int .i64 0, .string ⟨#[]⟩, .int .i64 0, .int .i64 0] 33) := (hF3.block W.heap.size (by omega) (by omega)).trans (unhide HR2)
             clear d0 d1 d2 d3 d4 d5
             have d0 : W3.cell? ⟨W.heap.size, 0, none⟩ = some (.int .i64 0) := (by rw [Lib.cell_of_heap hr3]; rfl)
             have d1 : W3.cell? ⟨W.heap.size, 1, none⟩ = some (.string ⟨#[]⟩) := (by rw [Lib.cell_of_heap hr3]; rfl)
             have d2 : W3.cell? ⟨W.heap.size, 2, none⟩ = some (.int .i64 0) := (by rw [Lib.cell_of_heap hr3]; rfl)
             have d3 : W3.cell? ⟨W.heap.size, 3, none⟩ = some (.int .i64 0) := (by rw [Lib.cell_of_heap hr3]; rfl)
             have d4 := Lib.frozen_of_heap hr3
             have d5 : W3.shape? W.heap.size = some (33, 4) := (by simp [World.shape?, hr3])
             have HR3 := hide hr3
             have HM3 := hide hM3
             have HF3 := hide hF3
             clear hr3 hM3 hF3))
          have hB4 := put4_below (W := W2) (Nat.le_refl W.heap.size) (.int .i64 0) (.string ⟨#[]⟩) (.int .i64 0) (.int .i64 0)
          have hr4 := put4_heap (unhide HR2) (.int .i64 0) (.string ⟨#[]⟩) (.int .i64 0) (.int .i64 0)
          obtain ⟨W4, hW4⟩ : ∃ W4, ((((W2.setCell ⟨W.heap.size, 0, none⟩ (.int .i64 0)).setCell ⟨W.heap.size, 1, none⟩ (.string ⟨#[]⟩)).setCell ⟨W.heap.size, 2, none⟩ (.int .i64 0)).setCell ⟨W.heap.size, 3, none⟩ (.int .i64 0)) = W4 := ⟨_, rfl⟩
          rw [hW4] at hB4 hr4 ⊢
          clear hW4
          obtain ⟨e0, e1, e2, e3⟩ := tok_cells hr4
          refine bodyPost_ret (v := .tuple #[.agg #[(.int .i64 0), (.string ⟨#[]⟩), (.int .i64 0), (.int .i64 0)], .bool false]) ?_ rfl ⟨by rw [unhide HNT, unhide HOK2]; rfl, by rw [unhide HNA, unhide HOK2]; exact (unhide HM2).below hB4 hml, ((Fr.refl _ W).below (unhide HB2)).below hB4⟩
          clear d0 d1 d2 d3 d4 d5
          simp [results, Tryd.results51, go_sem, e0, e1, e2, e3]
        obtain ⟨v, hv⟩ : ∃ v, decV g at' (k - at') = v := ⟨_, rfl⟩
        have hnn := unhide HNN
        have hOK := unhide HOK
        rw [hv] at hnn hOK hbig
        by_cases hle : v ≤ 9007199254740991
        · have hle1 : decide (v ≤ 9007199254740991) = true := decide_eq_true hle
          have hle2 : decide (9007199254740991 < v) = false := decide_eq_false (by omega)
          by_cases h48 : g at' = 48
          · have b48 : (g at' == 48) = true := by rw [h48]; rfl
            by_cases hm : at' + 1 < k
            · have hm1 : decide (at' + 1 < k) = true := decide_eq_true hm
              have hm2 : decide ((1 : Int) < (S.size : Int)) = true := decide_eq_true (by omega)
              have HOK2 : Hid (numOk g len at' = false) := by show _ = _; rw [hOK, b48, hm1]; simp
              clear hle1 hOK
              go_wp2_with (go_at_call 50; refine (isDigit_any _ _).mono ?_; rintro x w' ⟨rfl, hw⟩; subst w')
              go_quiet (fail)
              go_wp2_with (first | (
                 go_at_call 67
                 refine (unhide HPO v hv hle nq).mono ?_
                 rintro x W2 ⟨rfl, hB2⟩
                 have hM2 := (unhide HM1).below hB2 (by omega)
                 have hr2 : W2.heap[W.heap.size]? = some (.cells #[.int .i64 0, .string ⟨#[]⟩, .int .i64 0, .int .i64 0] 33) := (hB2.block W.heap.size (by omega)).trans (unhide HR1)
                 have m0 := hM2.c0
                 have m1 := hM2.c1
                 have d0 : W2.cell? ⟨W.heap.size, 0, none⟩ = some (.int .i64 0) := (by rw [Lib.cell_of_heap hr2]; rfl)
                 have d1 : W2.cell? ⟨W.heap.size, 1, none⟩ = some (.string ⟨#[]⟩) := (by rw [Lib.cell_of_heap hr2]; rfl)
                 have d2 : W2.cell? ⟨W.heap.size, 2, none⟩ = some (.int .i64 0) := (by rw [Lib.cell_of_heap hr2]; rfl)
                 have d3 : W2.cell? ⟨W.heap.size, 3, none⟩ = some (.int .i64 0) := (by rw [Lib.cell_of_heap hr2]; rfl)
                 have d4 := Lib.frozen_of_heap hr2
                 have d5 : W2.shape? W.heap.size = some (33, 4) := (by simp [World.shape?, hr2])
                 have HB2 := hide ((unhide HB1).trans (hB2.mono (unhide HB1).size))
                 have HM2 := hide hM2
                 have HR2 := hide hr2
                 have hz2 := hB2.size
                 have hix := unhide HIX W2
                 clear hB2 hM2 hr2) | (go_at_call 48; refine (isLetter_any _ _).mono ?_; rintro x w' ⟨rfl, hw⟩; subst w') | (
                 go_at_call 66
                 refine (take_any M _ ov at' 3 _ _ W2 (unhide HM2)).mono ?_
                 rintro x W3 ⟨rfl, hM3, hF3⟩
                 have hr3 : W3.heap[W.heap.size]? = some (.cells #[.int .i64 0, .string ⟨#[]⟩, .int .i64 0, .int .i64 0] 33) := (hF3.block W.heap.size (by omega) (by omega)).trans (unhide HR2)
                 clear d0 d1 d2 d3 d4 d5
                 have d0 : W3.cell? ⟨W.heap.size, 0, none⟩ = some (.int .i64 0) := (by rw [Lib.cell_of_heap hr3]; rfl)
                 have d1 : W3.cell? ⟨W.heap.size, 1, none⟩ = some (.string ⟨#[]⟩) := (by rw [Lib.cell_of_heap hr3]; rfl)
                 have d2 : W3.cell? ⟨W.heap.size, 2, none⟩ = some (.int .i64 0) := (by rw [Lib.cell_of_heap hr3]; rfl)
                 have d3 : W3.cell? ⟨W.heap.size, 3, none⟩ = some (.int .i64 0) := (by rw [Lib.cell_of_heap hr3]; rfl)
                 have d4 := Lib.frozen_of_heap hr3
                 have d5 : W3.shape? W.heap.size = some (33, 4) := (by simp [World.shape?, hr3])
                 have HR3 := hide hr3
                 have HM3 := hide hM3
                 have HF3 := hide hF3
                 clear hr3 hM3 hF3))
              have hB4 := put4_below (W := W2) (Nat.le_refl W.heap.size) (.int .i64 0) (.string ⟨#[]⟩) (.int .i64 0) (.int .i64 0)
              have hr4 := put4_heap (unhide HR2) (.int .i64 0) (.string ⟨#[]⟩) (.int .i64 0) (.int .i64 0)
              obtain ⟨W4, hW4⟩ : ∃ W4, ((((W2.setCell ⟨W.heap.size, 0, none⟩ (.int .i64 0)).setCell ⟨W.heap.size, 1, none⟩ (.string ⟨#[]⟩)).setCell ⟨W.heap.size, 2, none⟩ (.int .i64 0)).setCell ⟨W.heap.size, 3, none⟩ (.int .i64 0)) = W4 := ⟨_, rfl⟩
              rw [hW4] at hB4 hr4 ⊢
              clear hW4
              obtain ⟨e0, e1, e2, e3⟩ := tok_cells hr4
              refine bodyPost_ret (v := .tuple #[.agg #[(.int .i64 0), (.string ⟨#[]⟩), (.int .i64 0), (.int .i64 0)], .bool false]) ?_ rfl ⟨by rw [unhide HNT, unhide HOK2]; rfl, by rw [unhide HNA, unhide HOK2]; exact (unhide HM2).below hB4 hml, ((Fr.refl _ W).below (unhide HB2)).below hB4⟩
              clear d0 d1 d2 d3 d4 d5
              simp [results, Tryd.results51, go_sem, e0, e1, e2, e3]
            · have hm1 : decide (at' + 1 < k) = false := decide_eq_false hm
              have hm2 : decide ((1 : Int) < (S.size : Int)) = false := decide_eq_false (by omega)
              have HOK2 : Hid (numOk g len at' = true) := by show _ = _; rw [hOK, hkd', hle1, b48, hm1]; simp
              clear hle1 hOK
              go_wp2_with (go_at_call 50; refine (isDigit_any _ _).mono ?_; rintro x w' ⟨rfl, hw⟩; subst w')
              go_quiet (fail)
              go_wp2_with (first | (
                 go_at_call 67
                 refine (unhide HPO v hv hle nq).mono ?_
                 rintro x W2 ⟨rfl, hB2⟩
                 have hM2 := (unhide HM1).below hB2 (by omega)
                 have hr2 : W2.heap[W.heap.size]? = some (.cells #[.int .i64 0, .string ⟨#[]⟩, .int .i64 0, .int .i64 0] 33) := (hB2.block W.heap.size (by omega)).trans (unhide HR1)
                 have m0 := hM2.c0
                 have m1 := hM2.c1
                 have d0 : W2.cell? ⟨W.heap.size, 0, none⟩ = some (.int .i64 0) := (by rw [Lib.cell_of_heap hr2]; rfl)
                 have d1 : W2.cell? ⟨W.heap.size, 1, none⟩ = some (.string ⟨#[]⟩) := (by rw [Lib.cell_of_heap hr2]; rfl)
                 have d2 : W2.cell? ⟨W.heap.size, 2, none⟩ = some (.int .i64 0) := (by rw [Lib.cell_of_heap hr2]; rfl)
                 have d3 : W2.cell? ⟨W.heap.size, 3, none⟩ = some (.int .i64 0) := (by rw [Lib.cell_of_heap hr2]; rfl)
                 have d4 := Lib.frozen_of_heap hr2
                 have d5 : W2.shape? W.heap.size = some (33, 4) := (by simp [World.shape?, hr2])
                 have HB2 := hide ((unhide HB1).trans (hB2.mono (unhide HB1).size))
                 have HM2 := hide hM2
                 have HR2 := hide hr2
                 have hz2 := hB2.size
                 have hix := unhide HIX W2
                 clear hB2 hM2 hr2) | (go_at_call 48; refine (isLetter_any _ _).mono ?_; rintro x w' ⟨rfl, hw⟩; subst w') | (
                 go_at_call 66
                 refine (take_any M _ ov at' 3 _ _ W2 (unhide HM2)).mono ?_
                 rintro x W3 ⟨rfl, hM3, hF3⟩
                 have hr3 : W3.heap[W.heap.size]? = some (.cells #[.int .i64 0, .string ⟨#[]⟩, .int .i64 0, .int .i64 0] 33) := (hF3.block W.heap.size (by omega) (by omega)).trans (unhide HR2)
                 clear d0 d1 d2 d3 d4 d5
                 have d0 : W3.cell? ⟨W.heap.size, 0, none⟩ = some (.int .i64 0) := (by rw [Lib.cell_of_heap hr3]; rfl)
                 have d1 : W3.cell? ⟨W.heap.size, 1, none⟩ = some (.string ⟨#[]⟩) := (by rw [Lib.cell_of_heap hr3]; rfl)
                 have d2 : W3.cell? ⟨W.heap.size, 2, none⟩ = some (.int .i64 0) := (by rw [Lib.cell_of_heap hr3]; rfl)
                 have d3 : W3.cell? ⟨W.heap.size, 3, none⟩ = some (.int .i64 0) := (by rw [Lib.cell_of_heap hr3]; rfl)
                 have d4 := Lib.frozen_of_heap hr3
                 have d5 : W3.shape? W.heap.size = some (33, 4) := (by simp [World.shape?, hr3])
                 have HR3 := hide hr3
                 have HM3 := hide hM3
                 have HF3 := hide hF3
                 clear hr3 hM3 hF3))
              have hB4 := put4_below (W := W3) (Nat.le_refl W.heap.size) (.int .i64 3) (.string S) (.int .i64 (at' : Int)) (.int .i64 (k : Int))
              have hr4 := put4_heap (unhide HR3) (.int .i64 3) (.string S) (.int .i64 (at' : Int)) (.int .i64 (k : Int))
              obtain ⟨W4, hW4⟩ : ∃ W4, ((((W3.setCell ⟨W.heap.size, 0, none⟩ (.int .i64 3)).setCell ⟨W.heap.size, 1, none⟩ (.string S)).setCell ⟨W.heap.size, 2, none⟩ (.int .i64 (at' : Int))).setCell ⟨W.heap.size, 3, none⟩ (.int .i64 (k : Int))) = W4 := ⟨_, rfl⟩
              rw [hW4] at hB4 hr4 ⊢
              clear hW4
              obtain ⟨e0, e1, e2, e3⟩ := tok_cells hr4
              refine bodyPost_ret (v := .tuple #[.agg #[(.int .i64 3), (.string S), (.int .i64 (at' : Int)), (.int .i64 (k : Int))], .bool true]) ?_ rfl ⟨by rw [unhide HNT, unhide HOK2]; rfl, by rw [unhide HNA, unhide HOK2]; exact (unhide HM3).below hB4 hml, (((Fr.refl _ W).below (unhide HB2)).trans (unhide HF3)).below hB4⟩
              clear d0 d1 d2 d3 d4 d5
              simp [results, Tryd.results51, go_sem, e0, e1, e2, e3]
          · have b48 : (g at' == 48) = false := beq_eq_false_iff_ne.2 h48
            have HOK2 : Hid (numOk g len at' = true) := by show _ = _; rw [hOK, hkd', hle1, b48]; simp
            clear hle1 hOK
            go_wp2_with (go_at_call 50; refine (isDigit_any _ _).mono ?_; rintro x w' ⟨rfl, hw⟩; subst w')
            go_quiet (fail)
            go_wp2_with (first | (
               go_at_call 67
               refine (unhide HPO v hv hle nq).mono ?_
               rintro x W2 ⟨rfl, hB2⟩
               have hM2 := (unhide HM1).below hB2 (by omega)
               have hr2 : W2.heap[W.heap.size]? = some (.cells #[.int .i64 0, .string ⟨#[]⟩, .int .i64 0, .int .i64 0] 33) := (hB2.block W.heap.size (by omega)).trans (unhide HR1)
               have m0 := hM2.c0
               have m1 := hM2.c1
               have d0 : W2.cell? ⟨W.heap.size, 0, none⟩ = some (.int .i64 0) := (by rw [Lib.cell_of_heap hr2]; rfl)
               have d1 : W2.cell? ⟨W.heap.size, 1, none⟩ = some (.string ⟨#[]⟩) := (by rw [Lib.cell_of_heap hr2]; rfl)
               have d2 : W2.cell? ⟨W.heap.size, 2, none⟩ = some (.int .i64 0) := (by rw [Lib.cell_of_heap hr2]; rfl)
               have d3 : W2.cell? ⟨W.heap.size, 3, none⟩ = some (.int .i64 0) := (by rw [Lib.cell_of_heap hr2]; rfl)
               have d4 := Lib.frozen_of_heap hr2
               have d5 : W2.shape? W.heap.size = some (33, 4) := (by simp [World.shape?, hr2])
               have HB2 := hide ((unhide HB1).trans (hB2.mono (unhide HB1).size))
               have HM2 := hide hM2
               have HR2 := hide hr2
               have hz2 := hB2.size
               have hix := unhide HIX W2
               clear hB2 hM2 hr2) | (go_at_call 48; refine (isLetter_any _ _).mono ?_; rintro x w' ⟨rfl, hw⟩; subst w') | (
               go_at_call 66
               refine (take_any M _ ov at' 3 _ _ W2 (unhide HM2)).mono ?_
               rintro x W3 ⟨rfl, hM3, hF3⟩
               have hr3 : W3.heap[W.heap.size]? = some (.cells #[.int .i64 0, .string ⟨#[]⟩, .int .i64 0, .int .i64 0] 33) := (hF3.block W.heap.size (by omega) (by omega)).trans (unhide HR2)
               clear d0 d1 d2 d3 d4 d5
               have d0 : W3.cell? ⟨W.heap.size, 0, none⟩ = some (.int .i64 0) := (by rw [Lib.cell_of_heap hr3]; rfl)
               have d1 : W3.cell? ⟨W.heap.size, 1, none⟩ = some (.string ⟨#[]⟩) := (by rw [Lib.cell_of_heap hr3]; rfl)
               have d2 : W3.cell? ⟨W.heap.size, 2, none⟩ = some (.int .i64 0) := (by rw [Lib.cell_of_heap hr3]; rfl)
               have d3 : W3.cell? ⟨W.heap.size, 3, none⟩ = some (.int .i64 0) := (by rw [Lib.cell_of_heap hr3]; rfl)
               have d4 := Lib.frozen_of_heap hr3
               have d5 : W3.shape? W.heap.size = some (33, 4) := (by simp [World.shape?, hr3])
               have HR3 := hide hr3
               have HM3 := hide hM3
               have HF3 := hide hF3
               clear hr3 hM3 hF3))
            have hB4 := put4_below (W := W3) (Nat.le_refl W.heap.size) (.int .i64 3) (.string S) (.int .i64 (at' : Int)) (.int .i64 (k : Int))
            have hr4 := put4_heap (unhide HR3) (.int .i64 3) (.string S) (.int .i64 (at' : Int)) (.int .i64 (k : Int))
            obtain ⟨W4, hW4⟩ : ∃ W4, ((((W3.setCell ⟨W.heap.size, 0, none⟩ (.int .i64 3)).setCell ⟨W.heap.size, 1, none⟩ (.string S)).setCell ⟨W.heap.size, 2, none⟩ (.int .i64 (at' : Int))).setCell ⟨W.heap.size, 3, none⟩ (.int .i64 (k : Int))) = W4 := ⟨_, rfl⟩
            rw [hW4] at hB4 hr4 ⊢
            clear hW4
            obtain ⟨e0, e1, e2, e3⟩ := tok_cells hr4
            refine bodyPost_ret (v := .tuple #[.agg #[(.int .i64 3), (.string S), (.int .i64 (at' : Int)), (.int .i64 (k : Int))], .bool true]) ?_ rfl ⟨by rw [unhide HNT, unhide HOK2]; rfl, by rw [unhide HNA, unhide HOK2]; exact (unhide HM3).below hB4 hml, (((Fr.refl _ W).below (unhide HB2)).trans (unhide HF3)).below hB4⟩
            clear d0 d1 d2 d3 d4 d5
            simp [results, Tryd.results51, go_sem, e0, e1, e2, e3]
        · have hle1 : decide (v ≤ 9007199254740991) = false := decide_eq_false hle
          have hle2 : decide (9007199254740991 < v) = true := decide_eq_true (by omega)
          have hmid : v ≤ 18446744073709551615 := by omega
          have HOK2 : Hid (numOk g len at' = false) := by show _ = _; rw [hOK, hle1]; simp
          clear hle1 hOK
          go_wp2_with (go_at_call 50; refine (isDigit_any _ _).mono ?_; rintro x w' ⟨rfl, hw⟩; subst w')
          go_quiet (fail)
          go_wp2_with (first | (
             go_at_call 67
             refine (unhide HPM v hv hmid nq).mono ?_
             rintro x W2 ⟨rfl, hB2⟩
             have hM2 := (unhide HM1).below hB2 (by omega)
             have hr2 : W2.heap[W.heap.size]? = some (.cells #[.int .i64 0, .string ⟨#[]⟩, .int .i64 0, .int .i64 0] 33) := (hB2.block W.heap.size (by omega)).trans (unhide HR1)
             have m0 := hM2.c0
             have m1 := hM2.c1
             have d0 : W2.cell? ⟨W.heap.size, 0, none⟩ = some (.int .i64 0) := (by rw [Lib.cell_of_heap hr2]; rfl)
             have d1 : W2.cell? ⟨W.heap.size, 1, none⟩ = some (.string ⟨#[]⟩) := (by rw [Lib.cell_of_heap hr2]; rfl)
             have d2 : W2.cell? ⟨W.heap.size, 2, none⟩ = some (.int .i64 0) := (by rw [Lib.cell_of_heap hr2]; rfl)
             have d3 : W2.cell? ⟨W.heap.size, 3, none⟩ = some (.int .i64 0) := (by rw [Lib.cell_of_heap hr2]; rfl)
             have d4 := Lib.frozen_of_heap hr2
             have d5 : W2.shape? W.heap.size = some (33, 4) := (by simp [World.shape?, hr2])
             have HB2 := hide ((unhide HB1).trans (hB2.mono (unhide HB1).size))
             have HM2 := hide hM2
             have HR2 := hide hr2
             have hz2 := hB2.size
             have hix := unhide HIX W2
             clear hB2 hM2 hr2) | (go_at_call 48; refine (isLetter_any _ _).mono ?_; rintro x w' ⟨rfl, hw⟩; subst w') | (
             go_at_call 66
             refine (take_any M _ ov at' 3 _ _ W2 (unhide HM2)).mono ?_
             rintro x W3 ⟨rfl, hM3, hF3⟩
             have hr3 : W3.heap[W.heap.size]? = some (.cells #[.int .i64 0, .string ⟨#[]⟩, .int .i64 0, .int .i64 0] 33) := (hF3.block W.heap.size (by omega) (by omega)).trans (unhide HR2)
             clear d0 d1 d2 d3 d4 d5
             have d0 : W3.cell? ⟨W.heap.size, 0, none⟩ = some (.int .i64 0) := (by rw [Lib.cell_of_heap hr3]; rfl)
             have d1 : W3.cell? ⟨W.heap.size, 1, none⟩ = some (.string ⟨#[]⟩) := (by rw [Lib.cell_of_heap hr3]; rfl)
             have d2 : W3.cell? ⟨W.heap.size, 2, none⟩ = some (.int .i64 0) := (by rw [Lib.cell_of_heap hr3]; rfl)
             have d3 : W3.cell? ⟨W.heap.size, 3, none⟩ = some (.int .i64 0) := (by rw [Lib.cell_of_heap hr3]; rfl)
             have d4 := Lib.frozen_of_heap hr3
             have d5 : W3.shape? W.heap.size = some (33, 4) := (by simp [World.shape?, hr3])
             have HR3 := hide hr3
             have HM3 := hide hM3
             have HF3 := hide hF3
             clear hr3 hM3 hF3))
          have hB4 := put4_below (W := W2) (Nat.le_refl W.heap.size) (.int .i64 0) (.string ⟨#[]⟩) (.int .i64 0) (.int .i64 0)
          have hr4 := put4_heap (unhide HR2) (.int .i64 0) (.string ⟨#[]⟩) (.int .i64 0) (.int .i64 0)
          obtain ⟨W4, hW4⟩ : ∃ W4, ((((W2.setCell ⟨W.heap.size, 0, none⟩ (.int .i64 0)).setCell ⟨W.heap.size, 1, none⟩ (.string ⟨#[]⟩)).setCell ⟨W.heap.size, 2, none⟩ (.int .i64 0)).setCell ⟨W.heap.size, 3, none⟩ (.int .i64 0)) = W4 := ⟨_, rfl⟩
          rw [hW4] at hB4 hr4 ⊢
          clear hW4
          obtain ⟨e0, e1, e2, e3⟩ := tok_cells hr4
          refine bodyPost_ret (v := .tuple #[.agg #[(.int .i64 0), (.string ⟨#[]⟩), (.int .i64 0), (.int .i64 0)], .bool false]) ?_ rfl ⟨by rw [unhide HNT, unhide HOK2]; rfl, by rw [unhide HNA, unhide HOK2]; exact (unhide HM2).below hB4 hml, ((Fr.refl _ W).below (unhide HB2)).below hB4⟩
          clear d0 d1 d2 d3 d4 d5
          simp [results, Tryd.results51, go_sem, e0, e1, e2, e3]
end Go.Proofs.YtpdkeggiokebmaaDoor

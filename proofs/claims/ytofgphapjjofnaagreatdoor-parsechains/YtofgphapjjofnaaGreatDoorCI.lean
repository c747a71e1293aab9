/- ParseChains, walked. -/
import Derived.BigQuiet
import Derived.Deep.QuietTactic
import Derived.Deep.CutRange
import Derived.Laws.Bits128
import Derived.Test.YtofgphapjjofnaaGreatDoorCH
namespace Go.Proofs.YtofgphapjjofnaaGreatDoor
set_option linter.unusedSimpArgs false
set_option linter.unusedVariables false
open Go.RowKit Go.Shelf

theorem i64_and3 (n : Int) : bits .and .i64 n 3 = n % 4 := by
  have h3 : (BitVec.ofInt 64 3).toNat = 2 ^ 2 - 1 := by decide
  have key : (BitVec.ofInt 64 n &&& BitVec.ofInt 64 3).toNat = (n % ((2 ^ 64 : Nat) : Int)).toNat % 2 ^ 2 := by
    rw [BitVec.toNat_and, BitVec.toNat_ofInt, h3, Nat.and_two_pow_sub_one_eq_mod]
  show IntKind.i64.wrap ((BitVec.ofInt 64 n &&& BitVec.ofInt 64 3).toNat : Nat) = n % 4
  rw [key, IntKind.wrap_i64]
  omega
/-- A row of numbers that came in. -/
def LI (W : World) (a : Option Addr) (xs : List Int) : Prop := xs = [] ∨ ∃ b off, a = some ⟨b, off, none⟩ ∧ b < W.heap.size ∧ ∀ j, j < xs.length → W.cell? ⟨b, off + j, none⟩ = some (.int .i64 (xs.getD j 0))
def psOf (xs : List Int) : List Nat := xs.map fun x => (x % 4).toNat
theorem psOf_lt (xs : List Int) : ∀ q ∈ psOf xs, q < 4 := by
  intro q hq
  obtain ⟨x, _, rfl⟩ := List.mem_map.1 hq
  omega
theorem psOf_len (xs : List Int) : (psOf xs).length = xs.length := by simp [psOf]
theorem psOf_get {xs : List Int} {j : Nat} (hj : j < xs.length) : ∃ p, (psOf xs)[j]? = some p ∧ p < 4 ∧ bits .and .i64 (xs.getD j 0) 3 = (p : Int) := by
  refine ⟨(xs.getD j 0 % 4).toNat, ?_, by omega, by rw [i64_and3]; omega⟩
  unfold psOf
  rw [List.getElem?_map, List.getElem?_eq_getElem hj, List.getD_eq_getElem?_getD, List.getElem?_eq_getElem hj]
  rfl
def prL : List ByteArray := [⟨#[46, 98]⟩, ⟨#[91, 48, 93]⟩, ⟨#[40, 49, 41]⟩, ⟨#[33]⟩]
def kdL : List Int := [29, 30, 27, 34]
theorem prL_get {k : Nat} (hk : k < 4) : (prL.map Value.string)[k]? = some (.string (prS k)) ∧ (kdL.map (Value.int .i64))[k]? = some (.int .i64 (kdI k)) := by
  obtain rfl | rfl | rfl | rfl : k = 0 ∨ k = 1 ∨ k = 2 ∨ k = 3 := by omega
  all_goals exact ⟨rfl, rfl⟩
set_option maxRecDepth 100000 in
set_option maxHeartbeats 8000000 in
theorem chains_big {W : World} (a : Option Addr) (m cap : Nat) (hm : 40 < m) (hE1 : ErrG W 1) (hE2 : ErrG W 2) : Calls Tryz.prog 7 #[.slice a m cap] W fun e A => e = .returned (.bool true) ∧ Below W.heap.size W A := by
  have HK := Hi (known_any hE1 hE2)
  have hm' : (m : Int) > 40 := by omega
  clear hE1 hE2
  go_enter Tryz.func7, Tryz.ntmps7
  go_wp2_with (go_at_call 10; refine (U HK).mono ?_; rintro e w ⟨rfl, hw⟩)
  go_ret
  exact ⟨rfl, hw.bel⟩
set_option maxRecDepth 100000 in
set_option maxHeartbeats 8000000 in
theorem chains_in {W : World} (a : Option Addr) (cap : Nat) (xs : List Int) (hm : xs.length ≤ 40) (hL : LI W a xs) (hE1 : ErrG W 1) (hE2 : ErrG W 2) : Calls Tryz.prog 7 #[.slice a xs.length cap] W fun e A => e = .returned (.bool true) ∧ Below W.heap.size W A := by
  have HE := Hi (And.intro hE1 hE2)
  have HLI := Hi hL
  clear hE1 hE2 hL
  obtain ⟨w2, hw2⟩ : ∃ w, ((W.alloc (.cells (prL.map Value.string).toArray 9)).alloc (.cells (kdL.map (Value.int .i64)).toArray 3)) = w := ⟨_, rfl⟩
  have hB2 : Below W.heap.size W w2 := by rw [← hw2]; exact ((Below.refl _ W).alloc (Nat.le_refl _) _).alloc (by simp) _
  have hL2 : w2.heap[W.heap.size]? = some (.cells (prL.map Value.string).toArray 9) := by rw [← hw2]; exact al_lt (al_at _ _)
  have hV2 : w2.heap[W.heap.size + 1]? = some (.cells (kdL.map (Value.int .i64)).toArray 3) := by rw [← hw2]; exact al_at' _ _ _
  have HB2 := Hi hB2
  have HL2 := Hi hL2
  have HV2 := Hi hV2
  have hw2' : ((W.alloc (.cells #[.string ⟨#[46, 98]⟩, .string ⟨#[91, 48, 93]⟩, .string ⟨#[40, 49, 41]⟩, .string ⟨#[33]⟩] 9)).alloc (.cells #[.int .i64 29, .int .i64 30, .int .i64 27, .int .i64 34] 3)) = w2 := hw2
  clear hw2 hB2 hL2 hV2
  obtain ⟨m, hmm⟩ : ∃ m, xs.length = m := ⟨_, rfl⟩
  have HM := Hi hmm
  rw [hmm] at hm ⊢
  clear hmm
  have hm1 : ¬ (m : Int) > 40 := by omega
  have HEQ := Hi hw2'
  clear hw2'
  go_enter Tryz.func7, Tryz.ntmps7
  have hw2' := U HEQ
  go_wp2
  go_loopw [3, 6] (fun s i wr => ∃ j : Nat, j ≤ m ∧ i = .int .i64 j ∧ s = .string (chS ((psOf xs).take j)) ∧ w2 = wr) (fun _ i _ => m - (Lib.intOf i).toNat)
  case atStart => exact ⟨0, Nat.zero_le _, rfl, rfl, rfl⟩
  case round =>
    obtain ⟨j, hj, rfl, rfl, rfl⟩ := hrel
    by_cases hlt : j < m
    · rcases U HLI with e | ⟨b, off, rfl, hb, hc⟩
      · exfalso
        have := U HM
        rw [e] at this
        simp at this
        omega
      · obtain ⟨p, hp1, hp4, hbits⟩ := psOf_get (xs := xs) (j := j) (by rw [U HM]; exact hlt)
        have hc1 : w2.cell? ⟨b, off + j, none⟩ = some (.int .i64 (xs.getD j 0)) := ((U HB2).cell (p := ⟨b, off + j, none⟩) hb).trans (hc j (by rw [U HM]; exact hlt))
        have hc2 : w2.cell? ⟨W.heap.size, p, none⟩ = some (.string (prS p)) := by simp only [World.cell?, U HL2, List.getElem?_toArray]; exact (prL_get hp4).1
        have hb2 := World.block_lt_of_cell? w2 _ hc1
        have hb3 := World.block_lt_of_cell? w2 _ hc2
        have hsz : (chS ((psOf xs).take j)).size ≤ 3 * j + 1 := by
          have := chS_size (ps := (psOf xs).take j) fun q hq => psOf_lt xs q (List.mem_of_mem_take hq)
          have h2 : ((psOf xs).take j).length ≤ j := List.length_take_le j _
          omega
        have hps := prS_size hp4
        have ha : ∀ w, (Op.stringOp .add (chS ((psOf xs).take j)) (prS p)).run Tryz.prog w = .ok (.string (chS ((psOf xs).take j) ++ prS p)) w := fun w => run_string_add_sum w _ _ (by omega)
        have HT : Hid (chS ((psOf xs).take (j + 1)) = chS ((psOf xs).take j) ++ prS p) := by
          rw [List.take_add_one, hp1]
          exact chS_snoc _ _
        have hlt' : (j : Int) < m := by omega
        have hp4' : (p : Int) < 4 := by omega
        have hp0 : (0 : Int) ≤ (p : Int) := by omega
        generalize xs.getD j 0 = xv at *
        clear hc hp1 hsz hps
        have hw3 := U HEQ
        clear hw3
        go_wp2
        refine ⟨⟨j + 1, by omega, by go_num, congrArg Value.string (U HT).symm, trivial⟩, by simp [Lib.intOf]; omega⟩
    · obtain rfl : j = m := by omega
      have hps : (psOf xs).take j = psOf xs := List.take_of_length_le (by rw [psOf_len, U HM]; omega)
      rw [hps]
      obtain ⟨N, F, T, hT, hcv, hFB, hRD⟩ := chn_read (psOf_lt xs) (by rw [psOf_len, U HM]; exact hm)
      rw [psOf_len, U HM] at hT
      generalize chS (psOf xs) = S at *
      have HT := Hi hT
      have hE2 : ErrG w2 1 ∧ ErrG w2 2 := ⟨(U HE).1.below (U HB2) (U HE).1.lt, (U HE).2.below (U HB2) (U HE).2.lt⟩
      obtain ⟨wF, hwF⟩ : ∃ w, (F w2).2 = w := ⟨_, rfl⟩
      have hBF : Below w2.heap.size w2 wF := by rw [← hwF]; exact hFB w2
      have hEF : ErrG wF 1 ∧ ErrG wF 2 := ⟨hE2.1.below hBF hE2.1.lt, hE2.2.below hBF hE2.2.lt⟩
      have hC : Calls Tryz.prog 15 #[.slice (some ⟨w2.heap.size, 0, none⟩) N (F w2).1] wF (AnsQ (.tree T) wF) := by
        have := hRD w2 wF (by rw [hwF]; exact Below.refl _ _) hEF.1 hEF.2
        exact this
      have hcv2 : (convert 9 22 (.string S)).run Tryz.prog w2 = .ok (.slice (some ⟨w2.heap.size, 0, none⟩) N (F w2).1) wF := by rw [← hwF]; exact hcv w2
      have HC := Hi hC
      have HBF := Hi hBF
      have HEF := Hi hEF
      generalize (F w2).1 = cN at *
      unfold AnsQ at HC
      clear hcv hFB hRD hwF hps hC hBF hEF hE2 hT hlt hj
      go_upto_region 10 with fail
      go_cut [7, 8, 9] from 34 to 40 (fun s7 s8 s9 wx => ∃ b4 ta tc, s7 = .pointer (some ⟨b4, 0, none⟩) ∧ s8 = .int .i64 0 ∧ s9 = .int .i64 0 ∧ wx.heap[b4]? = some (.cells #[.slice ta T.length tc] 25) ∧ NdRow (fun _ => False) wx (.slice ta T.length tc) T ∧ WFr w2 wx)
      case first =>
        go_wp2_with (go_at_call 15; refine (U HC).mono ?_; rintro e w3 ⟨⟨tvv, rfl, hN⟩, h3⟩; obtain ⟨ta, tc, etv⟩ := nd_form hN; subst etv; have HN := Hi hN; have HW3 := Hi h3; clear hN h3)
        go_meet
        case rel =>
          have hA : WFr w3 (w3.alloc (.cells #[.slice ta T.length tc] 25)) := WFr.of ((Below.refl _ w3).alloc (Nat.le_refl _) _)
          exact ⟨w3.heap.size, ta, tc, rfl, rfl, rfl, al_at _ _, hA.nds _ _ (U HN), (WFr.of (U HBF)).trans ((U HW3).trans hA)⟩
      case rest =>
        obtain ⟨b4, ta, tc, rfl, rfl, rfl, hbx, hN, hW⟩ := hcut
        clear hcv2 HC HEF HBF
        obtain ⟨zm, hzm, hzk⟩ := (U HT).2
        obtain ⟨g, tc', kv, etv, ht1, ht2, _, hk17, _⟩ := nd_five hN hzm
        cases etv
        have HK17 : Hid (wc.cell? ⟨g, j * 5, none⟩ = some (.int .i64 17)) := by rw [hzk] at hk17; exact hk17
        have hTj : j < T.length := (List.getElem?_eq_some_iff.1 hzm).1
        have c0 : wc.cell? ⟨b4, 0, none⟩ = some (.slice (some ⟨g, 0, none⟩) T.length tc) := by simp [World.cell?, hbx]
        have hb4 := World.block_lt_of_cell? wc _ c0
        have hgl := World.block_lt_of_cell? wc _ (U HK17)
        have hA4 : ∀ p : Nat, p < 4 → wc.cell? ⟨W.heap.size + 1, p, none⟩ = some (.int .i64 (kdI p)) := fun p hp => by
          have hlt : W.heap.size + 1 < w2.heap.size := (Array.getElem?_eq_some_iff.1 (U HV2)).1
          have e := (hW.bel.block (W.heap.size + 1) hlt).trans (U HV2)
          simp only [World.cell?, e, List.getElem?_toArray]
          exact (prL_get hp).2
        have HKD := Hi hA4
        have HN := Hi hN
        have HW := Hi hW
        have HER : Hid (ErrG wc 1 ∧ ErrG wc 2) := by
          have h2 := (U HB2).trans (hW.bel.mono (U HB2).size)
          exact ⟨(U HE).1.below h2 (U HE).1.lt, (U HE).2.below h2 (U HE).2.lt⟩
        have hwj : wrap64 ((j : Int) - 1) = (j : Int) - 1 := IntWalk.wrap64_in _ (by omega)
        clear hk17 hA4 hN hW hbx hzm hzk
        go_wp2
        go_loopw [10, 11] (fun n i wr => ∃ k : Nat, k ≤ j ∧ n = .int .i64 k ∧ i = .int .i64 ((j : Int) - 1 - k) ∧ ∃ q, wr = wc.drewN q) (fun _ i _ => (Lib.intOf i + 1).toNat)
        case atStart => exact ⟨0, Nat.zero_le _, rfl, congrArg _ (by omega), 0, rfl⟩
        case round =>
          obtain ⟨k, hk, rfl, rfl, q, rfl⟩ := hrel
          by_cases hlt : k < j
          · obtain ⟨z, p, q1, q2, q3, l, q4⟩ := (U HT).1 k hlt
            obtain ⟨g', cap', kv, etv, _, _, hkr, hkk, _, _, hkv, _⟩ := nd_five (U HN) q1
            cases etv
            rw [q4] at hkr
            rw [q3] at hkk
            obtain ⟨ka, kc, rfl, r1, r2, e | ⟨kb, ko, cur, fr, rfl, _, hh, hcur⟩⟩ := hkr
            · cases e
            obtain ⟨d, hd⟩ : ∃ d : Nat, (j : Int) - 1 - k = (d : Int) := ⟨j - 1 - k, by omega⟩
            have hdj : d < xs.length := by rw [U HM]; omega
            rw [show j - 1 - k = d by omega] at q2
            obtain ⟨p', s1, s2, s3⟩ := psOf_get hdj
            rw [q2] at s1
            cases s1
            rcases U HLI with e | ⟨b, off, rfl, hb, hc⟩
            · exfalso
              rw [e] at hdj
              simp at hdj
            have c1 : wc.cell? ⟨g, k * 5, none⟩ = some (.int .i64 (kdI p)) := hkk
            have c2 : wc.cell? ⟨g, k * 5 + 3, none⟩ = some (.slice (some ⟨kb, ko, none⟩) ((k + 1) :: l).length kc) := hkv
            have c3 : wc.cell? ⟨kb, ko, none⟩ = some (.int .i64 ((k + 1 : Nat) : Int)) := by
              simp only [World.cell?, hh]
              have := hcur 0 (k + 1) rfl
              simpa using this
            have c4 : wc.cell? ⟨b, off + d, none⟩ = some (.int .i64 (xs.getD d 0)) := by
              have h2 := (U HB2).trans ((U HW).bel.mono (U HB2).size)
              exact (h2.cell (p := ⟨b, off + d, none⟩) hb).trans (hc d hdj)
            have c5 := U HKD p s2
            have l3 := World.block_lt_of_cell? wc _ c3
            have l4 := World.block_lt_of_cell? wc _ c4
            have l5 := World.block_lt_of_cell? wc _ c5
            have hp4' : (p : Int) < 4 := by omega
            have hp0 : (0 : Int) ≤ (p : Int) := by omega
            have hdI : (d : Int) < (j : Int) := by omega
            have hd0 : (0 : Int) ≤ (d : Int) := by omega
            have hkT : (k : Int) < (T.length : Int) := by omega
            have b1 : decide ((k : Int) < 0) = false := decide_eq_false (by omega)
            have b2 : decide ((k : Int) ≥ (T.length : Int)) = false := decide_eq_false (by omega)
            have b3 : decide ((d : Int) ≥ 0) = true := decide_eq_true (by omega)
            have b2' : decide ((T.length : Int) ≤ (k : Int)) = false := decide_eq_false (by omega)
            have b2'' : decide (T.length ≤ k) = false := decide_eq_false (by omega)
            have hLN : 0 < ((k + 1) :: l).length := by simp
            generalize ((k + 1) :: l).length = LN at *
            generalize kdI p = KD at *
            generalize xs.getD d 0 = xv at *
            have b4' : ((LN : Int) == 0) = false := beq_eq_false_iff_ne.2 (by omega)
            have b4'' : (LN == 0) = false := beq_eq_false_iff_ne.2 (by omega)
            have b5 : (KD != KD) = false := by simp
            have hLN0 : (0 : Int) < (LN : Int) := by omega
            have hwd : wrap64 ((d : Int) - 1) = (d : Int) - 1 := IntWalk.wrap64_in _ (by omega)
            have HD := Hi hd
            rw [hd]
            clear hd hkk hkv hh hcur hc q1 q2 q3 q4 hdj hw2'
            go_wp2
            go_quiet (fail)
            go_wp2
            refine ⟨⟨k + 1, by omega, by go_num, congrArg _ (by have := U HD; omega), _, rfl⟩, by simp [Lib.intOf] <;> omega⟩
          · obtain rfl : k = j := by omega
            have c1 := U HK17
            have hE' : ErrG (wc.drewN q) 1 ∧ ErrG (wc.drewN q) 2 := U HER
            have HKN := Hi (known_any hE'.1 hE'.2)
            have hBW : Below W.heap.size W (wc.drewN q) := by
              have h2 := (U HB2).trans ((U HW).bel.mono (U HB2).size)
              exact ⟨h2.os, h2.tape, h2.output, h2.size, h2.block⟩
            have HBW := Hi hBW
            have b1 : decide ((k : Int) - 1 - k ≥ 0) = false := decide_eq_false (by omega)
            have b1' : decide (0 ≤ (k : Int) - 1 - k) = false := decide_eq_false (by omega)
            have b2 : decide ((k : Int) ≥ 0) = true := decide_eq_true (by omega)
            have b3 : decide ((k : Int) < (T.length : Int)) = true := decide_eq_true (by omega)
            have b3' : decide (k < T.length) = true := decide_eq_true (by omega)
            have hkT : (k : Int) < (T.length : Int) := by omega
            have hneg : ¬ ((k : Int) - 1 - k ≥ 0) := by omega
            have hneg2 : (k : Int) - 1 - k = -1 := by omega
            rw [hneg2]
            clear hE' hBW hw2' hneg2
            go_wp2_with (go_at_call 10; refine (U HKN).mono ?_; rintro e w9 ⟨rfl, h9⟩; have H9 := Hi h9; clear h9)
            go_ret
            exact ⟨rfl, (U HBW).trans ((U H9).bel.mono (U HBW).size)⟩
end Go.Proofs.YtofgphapjjofnaaGreatDoor

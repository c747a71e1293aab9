/- ParseBounds, walked. -/
import Derived.Deep.CutRange
import Derived.Test.YtofgphapjjofnaaGreatDoorBE0
import Derived.Test.YtofgphapjjofnaaGreatDoorBE1
import Derived.Test.YtofgphapjjofnaaGreatDoorBE2
import Derived.Test.YtofgphapjjofnaaGreatDoorBE3
namespace Go.Proofs.YtofgphapjjofnaaGreatDoor
set_option linter.unusedSimpArgs false
set_option linter.unusedVariables false
open Go.RowKit Go.Shelf

theorem mod4 (a : Int) : ∃ k : Nat, k < 4 ∧ (Int.tmod a 4 = (k : Int) ∨ (Int.tmod a 4 < 0 ∧ Int.tmod a 4 = (k : Int) - 4)) := by
  have h1 := Int.tmod_lt_of_pos a (show (0 : Int) < 4 by decide)
  have h2 : -4 < Int.tmod a 4 := by
    have := Int.lt_tmod_of_pos a (show (0 : Int) < 4 by decide)
    omega
  by_cases h : 0 ≤ Int.tmod a 4
  · exact ⟨(Int.tmod a 4).toNat, by omega, .inl (by omega)⟩
  · exact ⟨(Int.tmod a 4 + 4).toNat, by omega, .inr ⟨by omega, by omega⟩⟩
theorem be_all {k n : Nat} (hk : k < 4) (h1 : 1 ≤ n) (h2 : n ≤ 64) : ∃ t, ansB (bndB k n) 2000 .expr = some t := by
  obtain rfl | rfl | rfl | rfl : k = 0 ∨ k = 1 ∨ k = 2 ∨ k = 3 := by omega
  · exact be0 h1 h2
  · exact be1 h1 h2
  · exact be2 h1 h2
  · exact be3 h1 h2
/-- What Expr answers to the text: where, and which error. -/
theorem bnd_read {k n : Nat} (hk : k < 4) (h1 : 1 ≤ n) (h2 : n ≤ 200) : ∃ (N : Nat) (F : World → Nat × World) (x y : Int), ((n ≤ 64 ∧ x = 0 ∧ y = 0) ∨ (64 < n ∧ x = (dAt k : Int) ∧ y = 5)) ∧ (∀ w, (convert 9 22 (.string (bndS k n))).run Tryz.prog w = .ok (.slice (some ⟨w.heap.size, 0, none⟩) N (F w).1) (F w).2) ∧ (∀ w, Below w.heap.size w (F w).2) ∧ ∀ w w', Below (F w).2.heap.size (F w).2 w' → ErrG w' 1 → ErrG w' 2 → Calls Tryz.prog 15 #[.slice (some ⟨w.heap.size, 0, none⟩) N (F w).1] w' fun e A => ∃ ta tl tc, e = .returned (.tuple #[.agg #[.slice ta tl tc], .int .i64 x, .int .i64 y]) ∧ WFr w' A := by
  obtain ⟨hsz, hgs, hby⟩ := byl_str (bndS_byl (n := n) hk)
  have hB := bnd_bndB (n := n) hk
  have hl := bnd_len (n := n) hk
  have hle : (bndB k n).length ≤ 4000 := by
    have := opW_le (k := k)
    have : opW k * n ≤ 4 * n := Nat.mul_le_mul_right _ this
    omega
  obtain ⟨F, hF⟩ := conv_ex (bndS k n) (by omega) (by omega)
  have hfun : gS (bndS k n) = gOf (bndB k n) := funext hgs
  rw [hfun, hsz] at hF
  have hS : ∀ w w', Below (F w).2.heap.size (F w).2 w' → (∀ w'', Below w'.heap.size w' w'' → Sl w'' w.heap.size (.slice (some ⟨w.heap.size, 0, none⟩) (bndB k n).length (F w).1) (bndB k n).length (gOf (bndB k n))) ∧ w.heap.size < w'.heap.size := fun w w' hw =>
    ⟨fun w'' hw'' => (hF w).2.2.2 w'' (hw.trans (hw''.mono hw.size)), Nat.lt_of_lt_of_le (by rw [(hF w).2.2.1]; omega) hw.size⟩
  by_cases hn : n ≤ 64
  · obtain ⟨t, ht⟩ := be_all hk h1 hn
    refine ⟨(bndB k n).length, F, 0, 0, .inl ⟨hn, rfl, rfl⟩, fun w => (hF w).1, fun w => (hF w).2.1, fun w w' hw e1 e2 => ?_⟩
    obtain ⟨s1, s2⟩ := hS w w' hw
    refine (read_expr ht hby hle s1 s2 (fun h => by cases h) e1 e2).mono fun e A h => ?_
    obtain ⟨⟨tvv, he, hN⟩, hw'⟩ := h
    obtain ⟨ta, tc, etv⟩ := nd_form hN
    rw [etv] at he
    exact ⟨ta, _, tc, he, hw'⟩
  · obtain ⟨q1, q2, q3, r, q4⟩ := bnd_toks hB h2
    obtain ⟨t, d1, d2, d3⟩ := deep_bnd (n := n) hk (by omega) r
    rw [← q4] at d1 d2
    refine ⟨(bndB k n).length, F, dAt k, 5, .inr ⟨by omega, rfl, rfl⟩, fun w => (hF w).1, fun w => (hF w).2.1, fun w w' hw e1 e2 => ?_⟩
    obtain ⟨s1, s2⟩ := hS w w' hw
    refine (ans_deep_expr (tokens_good (gOf_by hby) hle s1 s2 (fun h => by cases h) e1 e2 q1 q2 q3) d1 d2).mono fun e A h => ?_
    obtain ⟨he, hw'⟩ := h
    rw [d3] at he
    exact ⟨none, 0, 0, he, hw'⟩
def opL : List ByteArray := [⟨#[40]⟩, ⟨#[91]⟩, ⟨#[102, 40]⟩, ⟨#[123, 97, 58, 32]⟩]
def shL : List ByteArray := [⟨#[41]⟩, ⟨#[93]⟩, ⟨#[41]⟩, ⟨#[125]⟩]
theorem opL_get {k : Nat} (hk : k < 4) : (opL.map Value.string)[k]? = some (.string (opS k)) ∧ (shL.map Value.string)[k]? = some (.string (shS k)) := by
  obtain rfl | rfl | rfl | rfl : k = 0 ∨ k = 1 ∨ k = 2 ∨ k = 3 := by omega
  all_goals exact ⟨rfl, rfl⟩
set_option maxRecDepth 100000 in
set_option maxHeartbeats 8000000 in
theorem bounds_in {W : World} (n : Nat) (b : Int) (h1 : 1 ≤ n) (h2 : n ≤ 200) (hE1 : ErrG W 1) (hE2 : ErrG W 2) : Calls Tryz.prog 6 #[.int .i64 (n : Int), .int .i64 b] W fun e A => e = .returned (.bool true) ∧ Below W.heap.size W A := by
  obtain ⟨k, hk, hbk⟩ := mod4 b
  have HBK := Hi hbk
  have HE := Hi (And.intro hE1 hE2)
  clear hbk hE1 hE2
  obtain ⟨w2, hw2⟩ : ∃ w, ((W.alloc (.cells (opL.map Value.string).toArray 9)).alloc (.cells (shL.map Value.string).toArray 9)) = w := ⟨_, rfl⟩
  have hB2 : Below W.heap.size W w2 := by rw [← hw2]; exact ((Below.refl _ W).alloc (Nat.le_refl _) _).alloc (by simp) _
  have hL2 : w2.heap[W.heap.size]? = some (.cells (opL.map Value.string).toArray 9) := by rw [← hw2]; exact al_lt (al_at _ _)
  have hV2 : w2.heap[W.heap.size + 1]? = some (.cells (shL.map Value.string).toArray 9) := by rw [← hw2]; exact al_at' _ _ _
  have HB2 := Hi hB2
  have HL2 := Hi hL2
  have HV2 := Hi hV2
  have hw2' : ((W.alloc (.cells #[.string ⟨#[40]⟩, .string ⟨#[91]⟩, .string ⟨#[102, 40]⟩, .string ⟨#[123, 97, 58, 32]⟩] 9)).alloc (.cells #[.string ⟨#[41]⟩, .string ⟨#[93]⟩, .string ⟨#[41]⟩, .string ⟨#[125]⟩] 9)) = w2 := hw2
  have HW2 := Hi hw2'
  clear hw2 hw2' hB2 hL2 hV2
  have hn1 : ¬ (n : Int) < 1 := by omega
  have hn2 : ¬ (n : Int) > 200 := by omega
  go_enter Tryz.func6, Tryz.ntmps6
  go_upto_if 29 with fail
  go_cut [7] from 28 to 33 (fun s7 wx => s7 = .int .i64 (k : Int) ∧ w2 = wx)
  case first =>
    have e1 : (0 ≤ b.tmod 4 → b.tmod 4 = (k : Int)) ∧ (b.tmod 4 < 0 → wrap64 (b.tmod 4 + 4) = (k : Int) ∧ b.tmod 4 + 4 = (k : Int)) := by
      have := U HBK
      refine ⟨fun h => by omega, fun h => ?_⟩
      have e : b.tmod 4 + 4 = (k : Int) := by omega
      rw [e]
      exact ⟨IntWalk.wrap64_in _ (by omega), rfl⟩
    have E1 := Hi e1
    clear e1
    go_wp2_with fail
    all_goals (
      go_meet
      case rel => exact ⟨by first | rw [((U E1).2 (by assumption)).1] | rw [((U E1).2 (by assumption)).2] | rw [(U E1).1 (by assumption)], (U HW2).symm⟩)
  case rest =>
  obtain ⟨rfl, rfl⟩ := hcut
  have hX : w2.cell? ⟨W.heap.size, k, none⟩ = some (.string (opS k)) := by simp only [World.cell?, U HL2, List.getElem?_toArray]; exact (opL_get hk).1
  have hY : w2.cell? ⟨W.heap.size + 1, k, none⟩ = some (.string (shS k)) := by simp only [World.cell?, U HV2, List.getElem?_toArray]; exact (opL_get hk).2
  have hxl := World.block_lt_of_cell? w2 _ hX
  have hyl := World.block_lt_of_cell? w2 _ hY
  have hkI : (k : Int) < 4 := by omega
  have hk0 : (0 : Int) ≤ (k : Int) := by omega
  have HX := Hi hX
  clear hn1 hn2
  go_wp2
  go_loopw [8, 9, 10] (fun s e i wr => ∃ j : Nat, j ≤ n ∧ i = .int .i64 j ∧ s = .string (opsS k j) ∧ e = .string (shsS k j) ∧ w2 = wr) (fun _ _ i _ => n - (Lib.intOf i).toNat)
  case atStart => exact ⟨0, Nat.zero_le _, rfl, rfl, rfl, rfl⟩
  case round =>
    obtain ⟨j, hj, rfl, rfl, rfl, rfl⟩ := hrel
    by_cases hlt : j < n
    · obtain ⟨z1, z2, z3, z4⟩ := ops_size hk j (by omega)
      have z5 := opW_le (k := k)
      have ha : ∀ w, (Op.stringOp .add (opsS k j) (opS k)).run Tryz.prog w = .ok (.string (opsS k (j + 1))) w := fun w => run_string_add_sum w _ _ (by omega)
      have hb : ∀ w, (Op.stringOp .add (shS k) (shsS k j)).run Tryz.prog w = .ok (.string (shsS k (j + 1))) w := fun w => run_string_add_sum w _ _ (by omega)
      have hlt' : (j : Int) < n := by omega
      clear z1 z2 z3 z4 z5
      obtain ⟨O1, hO⟩ : ∃ x, opsS k (j + 1) = x := ⟨_, rfl⟩
      obtain ⟨S1, hS⟩ : ∃ x, shsS k (j + 1) = x := ⟨_, rfl⟩
      rw [hO] at ha
      rw [hS] at hb
      have HO := Hi hO
      have HS := Hi hS
      clear hO hS
      go_wp2
      refine ⟨⟨j + 1, by omega, by go_num, congrArg Value.string (U HO).symm, congrArg Value.string (U HS).symm, trivial⟩, by simp [Lib.intOf]; omega⟩
    · obtain rfl : j = n := by omega
      obtain ⟨z1, z2, z3, z4⟩ := ops_size hk j h2
      obtain ⟨N, F, x, y, hxy, hcv, hFB, hRD⟩ := bnd_read (k := k) (n := j) hk h1 h2
      have e49 : (⟨#[49]⟩ : ByteArray).size = 1 := rfl
      have ha : ∀ w, (Op.stringOp .add (opsS k j) ⟨#[49]⟩).run Tryz.prog w = .ok (.string (opsS k j ++ ⟨#[49]⟩)) w := fun w => run_string_add_sum w _ _ (by omega)
      have hb : ∀ w, (Op.stringOp .add (opsS k j ++ ⟨#[49]⟩) (shsS k j)).run Tryz.prog w = .ok (.string (bndS k j)) w := fun w => run_string_add_sum w _ _ (by rw [ByteArray.size_append]; omega)
      have hE2 : ErrG w2 1 ∧ ErrG w2 2 := ⟨(U HE).1.below (U HB2) (U HE).1.lt, (U HE).2.below (U HB2) (U HE).2.lt⟩
      obtain ⟨wF, hwF⟩ : ∃ w, (F w2).2 = w := ⟨_, rfl⟩
      have hBF : Below w2.heap.size w2 wF := by rw [← hwF]; exact hFB w2
      have hEF : ErrG wF 1 ∧ ErrG wF 2 := ⟨hE2.1.below hBF hE2.1.lt, hE2.2.below hBF hE2.2.lt⟩
      have hC := hRD w2 wF (by rw [hwF]; exact Below.refl _ _) hEF.1 hEF.2
      have hcv2 : (convert 9 22 (.string (bndS k j))).run Tryz.prog w2 = .ok (.slice (some ⟨w2.heap.size, 0, none⟩) N (F w2).1) wF := by rw [← hwF]; exact hcv w2
      have HC := Hi hC
      have HBF := Hi hBF
      have HXY := Hi hxy
      generalize (F w2).1 = cN at *
      generalize bndS k j = A2 at *
      generalize opsS k j ++ ⟨#[49]⟩ = A1 at *
      generalize opsS k j = A0 at *
      generalize shsS k j = A3 at *
      clear hcv hFB hRD hwF hC hBF hEF hE2 hlt hj hxy z1 z2 z4 e49
      go_upto_region 15 with fail
      go_cut [11, 12, 13] from 51 to 60 (fun s11 s12 s13 wx => (∃ b4, s11 = .pointer (some ⟨b4, 0, none⟩)) ∧ s12 = .int .i64 x ∧ s13 = .int .i64 y ∧ WFr w2 wx)
      case first =>
        go_wp2_with (go_at_call 15; refine (U HC).mono ?_; rintro e w3 ⟨ta, tl, tc, rfl, h3⟩; have HW3 := Hi h3; clear h3)
        go_meet
        case rel =>
          have hA : WFr w3 (w3.alloc (.cells #[.slice ta tl tc] 25)) := WFr.of ((Below.refl _ w3).alloc (Nat.le_refl _) _)
          exact ⟨⟨w3.heap.size, rfl⟩, rfl, rfl, (WFr.of (U HBF)).trans ((U HW3).trans hA)⟩
      case rest =>
        obtain ⟨⟨b4, rfl⟩, rfl, rfl, hW⟩ := hcut
        clear hcv2 HC HBF
        have hER : ErrG wc 1 ∧ ErrG wc 2 := by
          have h2 := (U HB2).trans (hW.bel.mono (U HB2).size)
          exact ⟨(U HE).1.below h2 (U HE).1.lt, (U HE).2.below h2 (U HE).2.lt⟩
        have HKN := Hi (known_any hER.1 hER.2)
        have hBW : Below W.heap.size W wc := (U HB2).trans (hW.bel.mono (U HB2).size)
        have HBW := Hi hBW
        have c1 : wc.cell? ⟨W.heap.size, k, none⟩ = some (.string (opS k)) := by
          have := hW.bel.cell (p := ⟨W.heap.size, k, none⟩) hxl
          exact this.trans (U HX)
        have lc := World.block_lt_of_cell? wc _ c1
        clear hER hBW hW
        rcases U HXY with ⟨hn64, rfl, rfl⟩ | ⟨hn64, rfl, rfl⟩
        · have q1 : (j : Int) ≤ 64 := by omega
          go_wp2_with (go_at_call 10; refine (U HKN).mono ?_; rintro e w9 ⟨rfl, h9⟩; have H9 := Hi h9; clear h9)
          go_ret
          exact ⟨rfl, (U HBW).trans ((U H9).bel.mono (U HBW).size)⟩
        · have q1 : ¬ (j : Int) ≤ 64 := by omega
          clear h1 h2 HXY
          obtain rfl | rfl | rfl | rfl : k = 0 ∨ k = 1 ∨ k = 2 ∨ k = 3 := by omega
          all_goals (
            have e0 : (opS 0).size = 1 := rfl
            have e1 : (opS 1).size = 1 := rfl
            have e2 : (opS 2).size = 2 := rfl
            have e3 : (opS 3).size = 4 := rfl
            go_wp2_with (go_at_call 10; refine (U HKN).mono ?_; rintro e w9 ⟨rfl, h9⟩; have H9 := Hi h9; clear h9)
            go_ret
            exact ⟨rfl, (U HBW).trans ((U H9).bel.mono (U HBW).size)⟩)
set_option maxRecDepth 100000 in
set_option maxHeartbeats 8000000 in
theorem bounds_any {W : World} (a b : Int) (hE1 : ErrG W 1) (hE2 : ErrG W 2) : Calls Tryz.prog 6 #[.int .i64 a, .int .i64 b] W fun e A => e = .returned (.bool true) ∧ Below W.heap.size W A := by
  by_cases h1 : a < 1
  · have HK := Hi (known_any hE1 hE2)
    clear hE1 hE2
    go_enter Tryz.func6, Tryz.ntmps6
    go_wp2_with (go_at_call 10; refine (U HK).mono ?_; rintro e w ⟨rfl, hw⟩)
    go_ret
    exact ⟨rfl, hw.bel⟩
  · by_cases h2 : a > 200
    · have HK := Hi (known_any hE1 hE2)
      clear hE1 hE2
      go_enter Tryz.func6, Tryz.ntmps6
      go_wp2_with (go_at_call 10; refine (U HK).mono ?_; rintro e w ⟨rfl, hw⟩)
      go_ret
      exact ⟨rfl, hw.bel⟩
    · obtain ⟨n, rfl⟩ : ∃ n : Nat, a = (n : Int) := ⟨a.toNat, by omega⟩
      exact bounds_in n b (by omega) (by omega) hE1 hE2
end Go.Proofs.YtofgphapjjofnaaGreatDoor

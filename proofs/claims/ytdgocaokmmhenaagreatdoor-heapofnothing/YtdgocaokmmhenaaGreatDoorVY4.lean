/- What the document's own Decode (package shuckref1) answers, at every place of every row of bytes: the same as text.Decode. -/
import Derived.LoopTactic
import Derived.LoopN
import Derived.WalkKit
import Derived.WalkSpells
import Derived.WalkLawsBesides
import Derived.Test.YtdgocaokmmhenaaGreatDoorVY0
namespace Go.Proofs.YtdgocaokmmhenaaGreatDoor
set_option linter.unusedSimpArgs false
set_option linter.unusedVariables false
open Go.RowKit

theorem ret_bool {a b : Bool} (h : a = b) : Ending.returned (.bool a) = .returned (.bool b) := by rw [h]

def cntB (g : Nat → Int) (len j : Nat) : Bool := decide (j < len) && decide (128 ≤ g j ∧ g j ≤ 191)

set_option maxHeartbeats 400000 in
theorem cont_any (b off len cap j : Nat) (g : Nat → Int) (w : World) (hcap : len ≤ cap) (hm : cap ≤ maxLen)
    (hc : ∀ j, j < len → w.cell? ⟨b, off + j, none⟩ = some (.int .u8 (g j))) :
    Calls Tryz.prog 80 #[.slice (some ⟨b, off, none⟩) len cap, .int .i64 j] w fun e w' => e = .returned (.bool (cntB g len j)) ∧ w' = w := by
  unfold maxLen at hm
  by_cases h1 : j < len
  · have hcj := hc j h1
    clear hc
    by_cases h2 : 128 ≤ g j
    · by_cases h3 : g j ≤ 191
      · go_enter Tryz.func80, Tryz.ntmps80
        go_wp2
        go_ret
        exact ⟨ret_bool (by simp [cntB, h1, h2, h3]), rfl⟩
      · go_enter Tryz.func80, Tryz.ntmps80
        go_wp2
        go_ret
        exact ⟨ret_bool (by simp [cntB, h1, h2] <;> omega), rfl⟩
    · go_enter Tryz.func80, Tryz.ntmps80
      go_wp2
      go_ret
      exact ⟨ret_bool (by simp [cntB, h1] <;> omega), rfl⟩
  · go_enter Tryz.func80, Tryz.ntmps80
    go_wp2
    go_ret
    exact ⟨ret_bool (by simp [cntB] <;> omega), rfl⟩

set_option maxHeartbeats 400000 in
theorem rdecode_out (a : Option Addr) (len cap : Nat) (p : Int) (w : World) (hlen : len ≤ maxLen) (h : inside len p = false) :
    Calls Tryz.prog 73 #[.slice a len cap, .int .i64 p] w fun e w' => e = .returned (.agg #[.int .i64 p, .int .i32 0, .int .i64 0, .bool false]) ∧ Below w.heap.size w w' := by
  unfold maxLen at hlen
  have h' : ¬ (0 ≤ p ∧ p < len) := by simpa [inside] using h
  clear h
  by_cases h1 : p < 0
  · go_enter Tryz.func73, Tryz.ntmps73
    go_wp2
    exact bodyPost_ret (v := .agg #[.int .i64 p, .int .i32 0, .int .i64 0, .bool false]) (by simp [results, Tryz.results73, go_sem]) rfl ⟨rfl, (Below.refl _ _).alloc (Nat.le_refl _) _⟩
  · have h2 : (len : Int) ≤ p := by omega
    clear h'
    go_enter Tryz.func73, Tryz.ntmps73
    go_wp2
    exact bodyPost_ret (v := .agg #[.int .i64 p, .int .i32 0, .int .i64 0, .bool false]) (by simp [results, Tryz.results73, go_sem]) rfl ⟨rfl, (Below.refl _ _).alloc (Nat.le_refl _) _⟩
theorem cont_int (b off len cap j : Nat) (p : Int) (v : Bool) (g : Nat → Int) (w : World) (hcap : len ≤ cap) (hm : cap ≤ maxLen)
    (hc : ∀ j, j < len → w.cell? ⟨b, off + j, none⟩ = some (.int .u8 (g j))) (hp : p = j) (hv : cntB g len j = v) :
    Calls Tryz.prog 80 #[.slice (some ⟨b, off, none⟩) len cap, .int .i64 p] w fun e w' => e = .returned (.bool v) ∧ w' = w := by
  subst hp; subst hv; exact cont_any b off len cap j g w hcap hm hc

theorem row_ret {p a a' c c' : Int} {d d' : Bool} (h1 : a' = a) (h2 : c' = c) (h3 : d' = d) : Ending.returned (.agg #[.int .i64 p, .int .i32 a, .int .i64 c, .bool d]) = .returned (.agg #[.int .i64 p, .int .i32 a', .int .i64 c', .bool d']) := by rw [h1, h2, h3]

set_option maxHeartbeats 1000000 in
theorem rdecode_2 (b off len cap i : Nat) (g : Nat → Int) (hg : ∀ j, 0 ≤ g j ∧ g j ≤ 255) (w : World) (hi : i < len) (hcap : len ≤ cap) (hm : cap ≤ maxLen)
    (hc : ∀ j, j < len → w.cell? ⟨b, off + j, none⟩ = some (.int .u8 (g j))) (hx1 : 192 ≤ g i) (hx2 : g i ≤ 223) :
    Calls Tryz.prog 73 #[.slice (some ⟨b, off, none⟩) len cap, .int .i64 i] w fun e w' => e = .returned (.agg #[.int .i64 i, .int .i32 (dRune g len i), .int .i64 (dSize g len i), .bool (dGood g len i)]) ∧ Below w.heap.size w w' := by
  have HM := hide hm
  unfold maxLen at hm
  have hci := hc i hi
  have hb : b < w.heap.size := World.block_lt_of_cell? _ _ hci
  have hb2 : b < ((w.alloc (.cells #[.int .i64 0, .int .i32 0, .int .i64 0, .bool false] 113)).alloc (.cells #[.int .i64 i, .int .i32 65533, .int .i64 1, .bool false] 113)).heap.size := by simp; omega
  have HC2 := hide (fun (j : Nat) (hj : j < len) => (((Below.refl w.heap.size w).alloc (Nat.le_refl _) (.cells #[.int .i64 0, .int .i32 0, .int .i64 0, .bool false] 113)).alloc (by simp) (.cells #[.int .i64 i, .int .i32 65533, .int .i64 1, .bool false] 113)).cell (p := ⟨b, off + j, none⟩) hb |>.trans (hc j hj))
  have HW : Hid (wid (g i) = 2) := by show wid (g i) = 2; unfold wid; (repeat' split) <;> omega
  have HD : Hid (dig (g i) = g i - 192) := by show dig (g i) = _; unfold dig; (repeat' split) <;> omega
  have HL : Hid (lst (g i) = 128) := by show lst (g i) = _; unfold lst; (repeat' split) <;> omega
  have HBW : Hid (Below w.heap.size w ((w.alloc (.cells #[.int .i64 0, .int .i32 0, .int .i64 0, .bool false] 113)).alloc (.cells #[.int .i64 i, .int .i32 65533, .int .i64 1, .bool false] 113))) := (((Below.refl _ w).alloc (Nat.le_refl _) _).alloc (by simp) _)
  have hi0 : decide ((i : Int) < 0) = false := by simp
  have hil : decide (len ≤ i) = false := by simp; omega
  have t0 : decide (g i < 128) = false := by simp; omega
  go_enter Tryz.func73, Tryz.ntmps73
  go_wp2
  go_loop [8, 10] (fun v k => ∃ m : Nat, m ≤ 2 - 1 ∧ k = .int .i64 ((m : Int) + 1) ∧ v = .int .i64 (acc g i m) ∧ conts g i m = true ∧ i + 1 + m ≤ len) (fun _ k => 4 - (intOf k).toNat)
  case atStart => exact ⟨0, Nat.zero_le _, rfl, congrArg _ HD.out.symm, rfl, by omega⟩
  case round =>
    obtain ⟨m, hmle, rfl, rfl, hcn, hml⟩ := hrel
    by_cases hlt : m < 2 - 1
    · have hlt' : (m : Int) + 1 < 2 := by omega
      cases hcv : cntB g len (i + 1 + m) with
      | false =>
        have hbad : good g len i = false := by
          by_cases h1 : i + 1 + m < len
          · refine bad_cont (j := m) (by rw [HW.out]; exact hlt) (fun hh => ?_)
            simp [cntB, h1] at hcv; omega
          · exact bad_len (by rw [HW.out]; omega)
        have HD2 := hide (dBad hi hbad)
        clear hbad hc
        go_wp2_with (go_at_call 80; refine (cont_int b off len cap (i + 1 + m) _ false g _ hcap HM.out HC2.out (by omega) hcv).mono ?_; rintro e w' ⟨rfl, rfl⟩)
        exact bodyPost_ret (v := .agg #[.int .i64 i, .int .i32 (65533), .int .i64 (1), .bool false]) (by simp [results, Tryz.results73, go_sem]) rfl ⟨row_ret (unhide HD2).1 (unhide HD2).2.1 (unhide HD2).2.2, ((Below.refl _ _).alloc (Nat.le_refl _) _).alloc (by simp) _⟩
      | true =>
        have hcs : i + 1 + m < len ∧ 128 ≤ g (i + 1 + m) ∧ g (i + 1 + m) ≤ 191 := by simpa [cntB] using hcv
        obtain ⟨hc1, hc2, hc3⟩ := hcs
        have hcm := hc (i + 1 + m) hc1
        rw [show off + (i + 1 + m) = off + (i + (m + 1)) from by omega] at hcm
        have hab := acc_lt2 (hg i).1 (by omega) hcn
        have HR : Hid (acc g i m * 64 + g (i + 1 + m) - 128 = acc g i (m + 1)) := by show _ = acc g i (m + 1); simp only [acc]; omega
        have hcn1 : conts g i (m + 1) = true := by simp only [conts, hcn, Bool.true_and, decide_eq_true_eq]; exact ⟨hc2, hc3⟩
        clear hc
        go_wp2_with (go_at_call 80; refine (cont_int b off len cap (i + 1 + m) _ true g _ hcap HM.out HC2.out (by omega) hcv).mono ?_; rintro e w' ⟨rfl, rfl⟩)
        go_round
        case rel => exact ⟨m + 1, by omega, by go_num, by rw [HR.out], hcn1, by omega⟩
        case measure => simp [intOf]; omega
    · obtain rfl : m = 1 := by omega
      have hab := acc_lt (hg i).1 (by omega) hcn
      have hw1 : wid (g i) - 1 = 1 := by rw [HW.out]
      by_cases hls : acc g i 1 < 128
      · have HD2 := hide (dBad hi (bad_lst (len := len) (by rw [hw1, HL.out]; exact hls)))
        clear hc hw1
        go_wp2
        exact bodyPost_ret (v := .agg #[.int .i64 i, .int .i32 (65533), .int .i64 (1), .bool false]) (by simp [results, Tryz.results73, go_sem]) rfl ⟨row_ret (unhide HD2).1 (unhide HD2).2.1 (unhide HD2).2.2, ((Below.refl _ _).alloc (Nat.le_refl _) _).alloc (by simp) _⟩
      · cases hal : alw (acc g i 1) with
        | false =>
          have HD2 := hide (dBad hi (bad_alw (len := len) (by rw [hw1]; exact hal)))
          have hal' : ¬ (acc g i 1 < 55296 ∨ (57343 < acc g i 1 ∧ acc g i 1 ≤ 1114111)) := by simpa [alw] using hal
          clear hc hw1 hal
          by_cases hbig : 1114111 < acc g i 1
          · clear hal'
            go_wp2
            exact bodyPost_ret (v := .agg #[.int .i64 i, .int .i32 (65533), .int .i64 (1), .bool false]) (by simp [results, Tryz.results73, go_sem]) rfl ⟨row_ret (unhide HD2).1 (unhide HD2).2.1 (unhide HD2).2.2, ((Below.refl _ _).alloc (Nat.le_refl _) _).alloc (by simp) _⟩
          · have g1 : 55296 ≤ acc g i 1 := by omega
            have g2 : acc g i 1 ≤ 57343 := by omega
            clear hal'
            go_wp2
            exact bodyPost_ret (v := .agg #[.int .i64 i, .int .i32 (65533), .int .i64 (1), .bool false]) (by simp [results, Tryz.results73, go_sem]) rfl ⟨row_ret (unhide HD2).1 (unhide HD2).2.1 (unhide HD2).2.2, ((Below.refl _ _).alloc (Nat.le_refl _) _).alloc (by simp) _⟩
        | true =>
          have hal' : acc g i 1 < 55296 ∨ (57343 < acc g i 1 ∧ acc g i 1 ≤ 1114111) := by simpa [alw] using hal
          have HD2 : Hid (dRune g len i = acc g i 1 ∧ dSize g len i = 2 ∧ dGood g len i = true) := by
            have := dYes hi (good_of (len := len) (by rw [HW.out]; decide) (by rw [HW.out]; omega) (by rw [hw1]; exact hcn) (by rw [hw1, HL.out]; omega) (by rw [hw1]; exact hal))
            rw [hw1, HW.out] at this
            exact this
          have g3 : acc g i 1 ≤ 1114111 := by omega
          clear hc hw1 hal
          by_cases g4 : acc g i 1 < 55296
          · clear hal'
            go_wp2
            exact bodyPost_ret (v := .agg #[.int .i64 i, .int .i32 (acc g i 1), .int .i64 (2), .bool true]) (by simp [results, Tryz.results73, go_sem]) rfl ⟨row_ret (unhide HD2).1 (unhide HD2).2.1 (unhide HD2).2.2, ((Below.refl _ _).alloc (Nat.le_refl _) _).alloc (by simp) _⟩
          · have g5 : 57343 < acc g i 1 := by omega
            clear hal'
            go_wp2
            exact bodyPost_ret (v := .agg #[.int .i64 i, .int .i32 (acc g i 1), .int .i64 (2), .bool true]) (by simp [results, Tryz.results73, go_sem]) rfl ⟨row_ret (unhide HD2).1 (unhide HD2).2.1 (unhide HD2).2.2, ((Below.refl _ _).alloc (Nat.le_refl _) _).alloc (by simp) _⟩

set_option maxHeartbeats 1000000 in
theorem rdecode_3 (b off len cap i : Nat) (g : Nat → Int) (hg : ∀ j, 0 ≤ g j ∧ g j ≤ 255) (w : World) (hi : i < len) (hcap : len ≤ cap) (hm : cap ≤ maxLen)
    (hc : ∀ j, j < len → w.cell? ⟨b, off + j, none⟩ = some (.int .u8 (g j))) (hx1 : 224 ≤ g i) (hx2 : g i ≤ 239) :
    Calls Tryz.prog 73 #[.slice (some ⟨b, off, none⟩) len cap, .int .i64 i] w fun e w' => e = .returned (.agg #[.int .i64 i, .int .i32 (dRune g len i), .int .i64 (dSize g len i), .bool (dGood g len i)]) ∧ Below w.heap.size w w' := by
  have HM := hide hm
  unfold maxLen at hm
  have hci := hc i hi
  have hb : b < w.heap.size := World.block_lt_of_cell? _ _ hci
  have hb2 : b < ((w.alloc (.cells #[.int .i64 0, .int .i32 0, .int .i64 0, .bool false] 113)).alloc (.cells #[.int .i64 i, .int .i32 65533, .int .i64 1, .bool false] 113)).heap.size := by simp; omega
  have HC2 := hide (fun (j : Nat) (hj : j < len) => (((Below.refl w.heap.size w).alloc (Nat.le_refl _) (.cells #[.int .i64 0, .int .i32 0, .int .i64 0, .bool false] 113)).alloc (by simp) (.cells #[.int .i64 i, .int .i32 65533, .int .i64 1, .bool false] 113)).cell (p := ⟨b, off + j, none⟩) hb |>.trans (hc j hj))
  have HW : Hid (wid (g i) = 3) := by show wid (g i) = 3; unfold wid; (repeat' split) <;> omega
  have HD : Hid (dig (g i) = g i - 224) := by show dig (g i) = _; unfold dig; (repeat' split) <;> omega
  have HL : Hid (lst (g i) = 2048) := by show lst (g i) = _; unfold lst; (repeat' split) <;> omega
  have HBW : Hid (Below w.heap.size w ((w.alloc (.cells #[.int .i64 0, .int .i32 0, .int .i64 0, .bool false] 113)).alloc (.cells #[.int .i64 i, .int .i32 65533, .int .i64 1, .bool false] 113))) := (((Below.refl _ w).alloc (Nat.le_refl _) _).alloc (by simp) _)
  have hi0 : decide ((i : Int) < 0) = false := by simp
  have hil : decide (len ≤ i) = false := by simp; omega
  have t0 : decide (g i < 128) = false := by simp; omega
  go_enter Tryz.func73, Tryz.ntmps73
  go_wp2
  go_loop [8, 10] (fun v k => ∃ m : Nat, m ≤ 3 - 1 ∧ k = .int .i64 ((m : Int) + 1) ∧ v = .int .i64 (acc g i m) ∧ conts g i m = true ∧ i + 1 + m ≤ len) (fun _ k => 4 - (intOf k).toNat)
  case atStart => exact ⟨0, Nat.zero_le _, rfl, congrArg _ HD.out.symm, rfl, by omega⟩
  case round =>
    obtain ⟨m, hmle, rfl, rfl, hcn, hml⟩ := hrel
    by_cases hlt : m < 3 - 1
    · have hlt' : (m : Int) + 1 < 3 := by omega
      cases hcv : cntB g len (i + 1 + m) with
      | false =>
        have hbad : good g len i = false := by
          by_cases h1 : i + 1 + m < len
          · refine bad_cont (j := m) (by rw [HW.out]; exact hlt) (fun hh => ?_)
            simp [cntB, h1] at hcv; omega
          · exact bad_len (by rw [HW.out]; omega)
        have HD2 := hide (dBad hi hbad)
        clear hbad hc
        go_wp2_with (go_at_call 80; refine (cont_int b off len cap (i + 1 + m) _ false g _ hcap HM.out HC2.out (by omega) hcv).mono ?_; rintro e w' ⟨rfl, rfl⟩)
        exact bodyPost_ret (v := .agg #[.int .i64 i, .int .i32 (65533), .int .i64 (1), .bool false]) (by simp [results, Tryz.results73, go_sem]) rfl ⟨row_ret (unhide HD2).1 (unhide HD2).2.1 (unhide HD2).2.2, ((Below.refl _ _).alloc (Nat.le_refl _) _).alloc (by simp) _⟩
      | true =>
        have hcs : i + 1 + m < len ∧ 128 ≤ g (i + 1 + m) ∧ g (i + 1 + m) ≤ 191 := by simpa [cntB] using hcv
        obtain ⟨hc1, hc2, hc3⟩ := hcs
        have hcm := hc (i + 1 + m) hc1
        rw [show off + (i + 1 + m) = off + (i + (m + 1)) from by omega] at hcm
        have hab := acc_lt2 (hg i).1 (by omega) hcn
        have HR : Hid (acc g i m * 64 + g (i + 1 + m) - 128 = acc g i (m + 1)) := by show _ = acc g i (m + 1); simp only [acc]; omega
        have hcn1 : conts g i (m + 1) = true := by simp only [conts, hcn, Bool.true_and, decide_eq_true_eq]; exact ⟨hc2, hc3⟩
        clear hc
        go_wp2_with (go_at_call 80; refine (cont_int b off len cap (i + 1 + m) _ true g _ hcap HM.out HC2.out (by omega) hcv).mono ?_; rintro e w' ⟨rfl, rfl⟩)
        go_round
        case rel => exact ⟨m + 1, by omega, by go_num, by rw [HR.out], hcn1, by omega⟩
        case measure => simp [intOf]; omega
    · obtain rfl : m = 2 := by omega
      have hab := acc_lt (hg i).1 (by omega) hcn
      have hw1 : wid (g i) - 1 = 2 := by rw [HW.out]
      by_cases hls : acc g i 2 < 2048
      · have HD2 := hide (dBad hi (bad_lst (len := len) (by rw [hw1, HL.out]; exact hls)))
        clear hc hw1
        go_wp2
        exact bodyPost_ret (v := .agg #[.int .i64 i, .int .i32 (65533), .int .i64 (1), .bool false]) (by simp [results, Tryz.results73, go_sem]) rfl ⟨row_ret (unhide HD2).1 (unhide HD2).2.1 (unhide HD2).2.2, ((Below.refl _ _).alloc (Nat.le_refl _) _).alloc (by simp) _⟩
      · cases hal : alw (acc g i 2) with
        | false =>
          have HD2 := hide (dBad hi (bad_alw (len := len) (by rw [hw1]; exact hal)))
          have hal' : ¬ (acc g i 2 < 55296 ∨ (57343 < acc g i 2 ∧ acc g i 2 ≤ 1114111)) := by simpa [alw] using hal
          clear hc hw1 hal
          by_cases hbig : 1114111 < acc g i 2
          · clear hal'
            go_wp2
            exact bodyPost_ret (v := .agg #[.int .i64 i, .int .i32 (65533), .int .i64 (1), .bool false]) (by simp [results, Tryz.results73, go_sem]) rfl ⟨row_ret (unhide HD2).1 (unhide HD2).2.1 (unhide HD2).2.2, ((Below.refl _ _).alloc (Nat.le_refl _) _).alloc (by simp) _⟩
          · have g1 : 55296 ≤ acc g i 2 := by omega
            have g2 : acc g i 2 ≤ 57343 := by omega
            clear hal'
            go_wp2
            exact bodyPost_ret (v := .agg #[.int .i64 i, .int .i32 (65533), .int .i64 (1), .bool false]) (by simp [results, Tryz.results73, go_sem]) rfl ⟨row_ret (unhide HD2).1 (unhide HD2).2.1 (unhide HD2).2.2, ((Below.refl _ _).alloc (Nat.le_refl _) _).alloc (by simp) _⟩
        | true =>
          have hal' : acc g i 2 < 55296 ∨ (57343 < acc g i 2 ∧ acc g i 2 ≤ 1114111) := by simpa [alw] using hal
          have HD2 : Hid (dRune g len i = acc g i 2 ∧ dSize g len i = 3 ∧ dGood g len i = true) := by
            have := dYes hi (good_of (len := len) (by rw [HW.out]; decide) (by rw [HW.out]; omega) (by rw [hw1]; exact hcn) (by rw [hw1, HL.out]; omega) (by rw [hw1]; exact hal))
            rw [hw1, HW.out] at this
            exact this
          have g3 : acc g i 2 ≤ 1114111 := by omega
          clear hc hw1 hal
          by_cases g4 : acc g i 2 < 55296
          · clear hal'
            go_wp2
            exact bodyPost_ret (v := .agg #[.int .i64 i, .int .i32 (acc g i 2), .int .i64 (3), .bool true]) (by simp [results, Tryz.results73, go_sem]) rfl ⟨row_ret (unhide HD2).1 (unhide HD2).2.1 (unhide HD2).2.2, ((Below.refl _ _).alloc (Nat.le_refl _) _).alloc (by simp) _⟩
          · have g5 : 57343 < acc g i 2 := by omega
            clear hal'
            go_wp2
            exact bodyPost_ret (v := .agg #[.int .i64 i, .int .i32 (acc g i 2), .int .i64 (3), .bool true]) (by simp [results, Tryz.results73, go_sem]) rfl ⟨row_ret (unhide HD2).1 (unhide HD2).2.1 (unhide HD2).2.2, ((Below.refl _ _).alloc (Nat.le_refl _) _).alloc (by simp) _⟩

set_option maxHeartbeats 1000000 in
theorem rdecode_4 (b off len cap i : Nat) (g : Nat → Int) (hg : ∀ j, 0 ≤ g j ∧ g j ≤ 255) (w : World) (hi : i < len) (hcap : len ≤ cap) (hm : cap ≤ maxLen)
    (hc : ∀ j, j < len → w.cell? ⟨b, off + j, none⟩ = some (.int .u8 (g j))) (hx1 : 240 ≤ g i) (hx2 : g i ≤ 247) :
    Calls Tryz.prog 73 #[.slice (some ⟨b, off, none⟩) len cap, .int .i64 i] w fun e w' => e = .returned (.agg #[.int .i64 i, .int .i32 (dRune g len i), .int .i64 (dSize g len i), .bool (dGood g len i)]) ∧ Below w.heap.size w w' := by
  have HM := hide hm
  unfold maxLen at hm
  have hci := hc i hi
  have hb : b < w.heap.size := World.block_lt_of_cell? _ _ hci
  have hb2 : b < ((w.alloc (.cells #[.int .i64 0, .int .i32 0, .int .i64 0, .bool false] 113)).alloc (.cells #[.int .i64 i, .int .i32 65533, .int .i64 1, .bool false] 113)).heap.size := by simp; omega
  have HC2 := hide (fun (j : Nat) (hj : j < len) => (((Below.refl w.heap.size w).alloc (Nat.le_refl _) (.cells #[.int .i64 0, .int .i32 0, .int .i64 0, .bool false] 113)).alloc (by simp) (.cells #[.int .i64 i, .int .i32 65533, .int .i64 1, .bool false] 113)).cell (p := ⟨b, off + j, none⟩) hb |>.trans (hc j hj))
  have HW : Hid (wid (g i) = 4) := by show wid (g i) = 4; unfold wid; (repeat' split) <;> omega
  have HD : Hid (dig (g i) = g i - 240) := by show dig (g i) = _; unfold dig; (repeat' split) <;> omega
  have HL : Hid (lst (g i) = 65536) := by show lst (g i) = _; unfold lst; (repeat' split) <;> omega
  have HBW : Hid (Below w.heap.size w ((w.alloc (.cells #[.int .i64 0, .int .i32 0, .int .i64 0, .bool false] 113)).alloc (.cells #[.int .i64 i, .int .i32 65533, .int .i64 1, .bool false] 113))) := (((Below.refl _ w).alloc (Nat.le_refl _) _).alloc (by simp) _)
  have hi0 : decide ((i : Int) < 0) = false := by simp
  have hil : decide (len ≤ i) = false := by simp; omega
  have t0 : decide (g i < 128) = false := by simp; omega
  go_enter Tryz.func73, Tryz.ntmps73
  go_wp2
  go_loop [8, 10] (fun v k => ∃ m : Nat, m ≤ 4 - 1 ∧ k = .int .i64 ((m : Int) + 1) ∧ v = .int .i64 (acc g i m) ∧ conts g i m = true ∧ i + 1 + m ≤ len) (fun _ k => 4 - (intOf k).toNat)
  case atStart => exact ⟨0, Nat.zero_le _, rfl, congrArg _ HD.out.symm, rfl, by omega⟩
  case round =>
    obtain ⟨m, hmle, rfl, rfl, hcn, hml⟩ := hrel
    by_cases hlt : m < 4 - 1
    · have hlt' : (m : Int) + 1 < 4 := by omega
      cases hcv : cntB g len (i + 1 + m) with
      | false =>
        have hbad : good g len i = false := by
          by_cases h1 : i + 1 + m < len
          · refine bad_cont (j := m) (by rw [HW.out]; exact hlt) (fun hh => ?_)
            simp [cntB, h1] at hcv; omega
          · exact bad_len (by rw [HW.out]; omega)
        have HD2 := hide (dBad hi hbad)
        clear hbad hc
        go_wp2_with (go_at_call 80; refine (cont_int b off len cap (i + 1 + m) _ false g _ hcap HM.out HC2.out (by omega) hcv).mono ?_; rintro e w' ⟨rfl, rfl⟩)
        exact bodyPost_ret (v := .agg #[.int .i64 i, .int .i32 (65533), .int .i64 (1), .bool false]) (by simp [results, Tryz.results73, go_sem]) rfl ⟨row_ret (unhide HD2).1 (unhide HD2).2.1 (unhide HD2).2.2, ((Below.refl _ _).alloc (Nat.le_refl _) _).alloc (by simp) _⟩
      | true =>
        have hcs : i + 1 + m < len ∧ 128 ≤ g (i + 1 + m) ∧ g (i + 1 + m) ≤ 191 := by simpa [cntB] using hcv
        obtain ⟨hc1, hc2, hc3⟩ := hcs
        have hcm := hc (i + 1 + m) hc1
        rw [show off + (i + 1 + m) = off + (i + (m + 1)) from by omega] at hcm
        have hab := acc_lt2 (hg i).1 (by omega) hcn
        have HR : Hid (acc g i m * 64 + g (i + 1 + m) - 128 = acc g i (m + 1)) := by show _ = acc g i (m + 1); simp only [acc]; omega
        have hcn1 : conts g i (m + 1) = true := by simp only [conts, hcn, Bool.true_and, decide_eq_true_eq]; exact ⟨hc2, hc3⟩
        clear hc
        go_wp2_with (go_at_call 80; refine (cont_int b off len cap (i + 1 + m) _ true g _ hcap HM.out HC2.out (by omega) hcv).mono ?_; rintro e w' ⟨rfl, rfl⟩)
        go_round
        case rel => exact ⟨m + 1, by omega, by go_num, by rw [HR.out], hcn1, by omega⟩
        case measure => simp [intOf]; omega
    · obtain rfl : m = 3 := by omega
      have hab := acc_lt (hg i).1 (by omega) hcn
      have hw1 : wid (g i) - 1 = 3 := by rw [HW.out]
      by_cases hls : acc g i 3 < 65536
      · have HD2 := hide (dBad hi (bad_lst (len := len) (by rw [hw1, HL.out]; exact hls)))
        clear hc hw1
        go_wp2
        exact bodyPost_ret (v := .agg #[.int .i64 i, .int .i32 (65533), .int .i64 (1), .bool false]) (by simp [results, Tryz.results73, go_sem]) rfl ⟨row_ret (unhide HD2).1 (unhide HD2).2.1 (unhide HD2).2.2, ((Below.refl _ _).alloc (Nat.le_refl _) _).alloc (by simp) _⟩
      · cases hal : alw (acc g i 3) with
        | false =>
          have HD2 := hide (dBad hi (bad_alw (len := len) (by rw [hw1]; exact hal)))
          have hal' : ¬ (acc g i 3 < 55296 ∨ (57343 < acc g i 3 ∧ acc g i 3 ≤ 1114111)) := by simpa [alw] using hal
          clear hc hw1 hal
          by_cases hbig : 1114111 < acc g i 3
          · clear hal'
            go_wp2
            exact bodyPost_ret (v := .agg #[.int .i64 i, .int .i32 (65533), .int .i64 (1), .bool false]) (by simp [results, Tryz.results73, go_sem]) rfl ⟨row_ret (unhide HD2).1 (unhide HD2).2.1 (unhide HD2).2.2, ((Below.refl _ _).alloc (Nat.le_refl _) _).alloc (by simp) _⟩
          · have g1 : 55296 ≤ acc g i 3 := by omega
            omega
        | true =>
          have hal' : acc g i 3 < 55296 ∨ (57343 < acc g i 3 ∧ acc g i 3 ≤ 1114111) := by simpa [alw] using hal
          have HD2 : Hid (dRune g len i = acc g i 3 ∧ dSize g len i = 4 ∧ dGood g len i = true) := by
            have := dYes hi (good_of (len := len) (by rw [HW.out]; decide) (by rw [HW.out]; omega) (by rw [hw1]; exact hcn) (by rw [hw1, HL.out]; omega) (by rw [hw1]; exact hal))
            rw [hw1, HW.out] at this
            exact this
          have g3 : acc g i 3 ≤ 1114111 := by omega
          clear hc hw1 hal
          by_cases g4 : acc g i 3 < 55296
          · omega
          · have g5 : 57343 < acc g i 3 := by omega
            clear hal'
            go_wp2
            exact bodyPost_ret (v := .agg #[.int .i64 i, .int .i32 (acc g i 3), .int .i64 (4), .bool true]) (by simp [results, Tryz.results73, go_sem]) rfl ⟨row_ret (unhide HD2).1 (unhide HD2).2.1 (unhide HD2).2.2, ((Below.refl _ _).alloc (Nat.le_refl _) _).alloc (by simp) _⟩

set_option maxHeartbeats 1000000 in
theorem rdecode_1 (b off len cap i : Nat) (g : Nat → Int) (hg : ∀ j, 0 ≤ g j ∧ g j ≤ 255) (w : World) (hi : i < len) (hcap : len ≤ cap) (hm : cap ≤ maxLen)
    (hc : ∀ j, j < len → w.cell? ⟨b, off + j, none⟩ = some (.int .u8 (g j))) (hx : g i < 128) :
    Calls Tryz.prog 73 #[.slice (some ⟨b, off, none⟩) len cap, .int .i64 i] w fun e w' => e = .returned (.agg #[.int .i64 i, .int .i32 (dRune g len i), .int .i64 (dSize g len i), .bool (dGood g len i)]) ∧ Below w.heap.size w w' := by
  unfold maxLen at hm
  have hci := hc i hi
  have hb : b < w.heap.size := World.block_lt_of_cell? _ _ hci
  have hgi := hg i
  have hW : wid (g i) = 1 := by unfold wid; (repeat' split) <;> omega
  have hD : dig (g i) = g i := by unfold dig; (repeat' split) <;> omega
  have hL : lst (g i) = 0 := by unfold lst; (repeat' split) <;> omega
  have HD2 : Hid (dRune g len i = g i ∧ dSize g len i = 1 ∧ dGood g len i = true) := by
    have := dYes hi (good_of (len := len) (by rw [hW]; decide) (by rw [hW]; omega) (by rw [hW]; rfl) (by rw [hW, hL]; show 0 ≤ dig (g i); omega) (by rw [hW]; show alw (dig (g i)) = true; rw [hD]; simp [alw]; omega))
    rw [hW] at this
    exact ⟨this.1.trans hD, this.2⟩
  have hi0 : decide ((i : Int) < 0) = false := by simp
  have hil : decide (len ≤ i) = false := by simp; omega
  clear hc hW hD hL
  go_enter Tryz.func73, Tryz.ntmps73
  go_wp2
  exact bodyPost_ret (v := .agg #[.int .i64 i, .int .i32 (g i), .int .i64 1, .bool true]) (by simp [results, Tryz.results73, go_sem]) rfl ⟨row_ret (unhide HD2).1 (unhide HD2).2.1 (unhide HD2).2.2, ((Below.refl _ _).alloc (Nat.le_refl _) _).alloc (by simp) _⟩

set_option maxHeartbeats 1000000 in
theorem rdecode_0 (b off len cap i : Nat) (g : Nat → Int) (hg : ∀ j, 0 ≤ g j ∧ g j ≤ 255) (w : World) (hi : i < len) (hcap : len ≤ cap) (hm : cap ≤ maxLen)
    (hc : ∀ j, j < len → w.cell? ⟨b, off + j, none⟩ = some (.int .u8 (g j))) (hx : (128 ≤ g i ∧ g i ≤ 191) ∨ 248 ≤ g i) :
    Calls Tryz.prog 73 #[.slice (some ⟨b, off, none⟩) len cap, .int .i64 i] w fun e w' => e = .returned (.agg #[.int .i64 i, .int .i32 (dRune g len i), .int .i64 (dSize g len i), .bool (dGood g len i)]) ∧ Below w.heap.size w w' := by
  unfold maxLen at hm
  have hci := hc i hi
  have hb : b < w.heap.size := World.block_lt_of_cell? _ _ hci
  have hgi := hg i
  have hW : wid (g i) = 0 := by unfold wid; (repeat' split) <;> omega
  have HD2 := hide (dBad hi (bad_wid0 (len := len) hW))
  have hi0 : decide ((i : Int) < 0) = false := by simp
  have hil : decide (len ≤ i) = false := by simp; omega
  clear hc hW
  rcases hx with ⟨hx1, hx2⟩ | hx
  · go_enter Tryz.func73, Tryz.ntmps73
    go_wp2
    exact bodyPost_ret (v := .agg #[.int .i64 i, .int .i32 65533, .int .i64 1, .bool false]) (by simp [results, Tryz.results73, go_sem]) rfl ⟨row_ret (unhide HD2).1 (unhide HD2).2.1 (unhide HD2).2.2, ((Below.refl _ _).alloc (Nat.le_refl _) _).alloc (by simp) _⟩
  · go_enter Tryz.func73, Tryz.ntmps73
    go_wp2
    exact bodyPost_ret (v := .agg #[.int .i64 i, .int .i32 65533, .int .i64 1, .bool false]) (by simp [results, Tryz.results73, go_sem]) rfl ⟨row_ret (unhide HD2).1 (unhide HD2).2.1 (unhide HD2).2.2, ((Below.refl _ _).alloc (Nat.le_refl _) _).alloc (by simp) _⟩

theorem rdecode_in (b off len cap i : Nat) (g : Nat → Int) (hg : ∀ j, 0 ≤ g j ∧ g j ≤ 255) (w : World) (hi : i < len) (hcap : len ≤ cap) (hm : cap ≤ maxLen)
    (hc : ∀ j, j < len → w.cell? ⟨b, off + j, none⟩ = some (.int .u8 (g j))) :
    Calls Tryz.prog 73 #[.slice (some ⟨b, off, none⟩) len cap, .int .i64 i] w fun e w' => e = .returned (.agg #[.int .i64 i, .int .i32 (dRune g len i), .int .i64 (dSize g len i), .bool (dGood g len i)]) ∧ Below w.heap.size w w' := by
  by_cases h1 : g i < 128
  · exact rdecode_1 b off len cap i g hg w hi hcap hm hc h1
  by_cases h2 : g i ≤ 191
  · exact rdecode_0 b off len cap i g hg w hi hcap hm hc (.inl ⟨by omega, h2⟩)
  by_cases h3 : g i ≤ 223
  · exact rdecode_2 b off len cap i g hg w hi hcap hm hc (by omega) h3
  by_cases h4 : g i ≤ 239
  · exact rdecode_3 b off len cap i g hg w hi hcap hm hc (by omega) h4
  by_cases h5 : g i ≤ 247
  · exact rdecode_4 b off len cap i g hg w hi hcap hm hc (by omega) h5
  · exact rdecode_0 b off len cap i g hg w hi hcap hm hc (.inr (by omega))
end Go.Proofs.YtdgocaokmmhenaaGreatDoor

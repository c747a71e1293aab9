/- What text.Decode answers, at every place of every row of bytes. -/
import Derived.Test.YtpdkeggiokebmaaDoorA1
namespace Go.Proofs.YtpdkeggiokebmaaDoor
set_option linter.unusedSimpArgs false
set_option linter.unusedVariables false
open Go.RowKit

set_option maxHeartbeats 400000 in
theorem decode_out (a : Option Addr) (len cap : Nat) (p : Int) (w : World) (hlen : len ≤ maxLen) (h : inside len p = false) :
    Calls Tryd.prog 38 #[.slice a len cap, .int .i64 p] w fun e w' => e = .returned (.tuple #[.int .i32 0, .int .i64 0, .bool false]) ∧ w' = w := by
  unfold maxLen at hlen
  have h' : ¬ (0 ≤ p ∧ p < len) := by simpa [inside] using h
  clear h
  by_cases h1 : p < 0
  · go_enter Tryd.func38, Tryd.ntmps38
    go_wp2
    go_ret3
    exact ⟨rfl, rfl⟩
  · have h2 : (len : Int) ≤ p := by omega
    clear h'
    go_enter Tryd.func38, Tryd.ntmps38
    go_wp2
    go_ret3
    exact ⟨rfl, rfl⟩

theorem dec_ret {a a' c c' : Int} {d d' : Bool} (h1 : a' = a) (h2 : c' = c) (h3 : d' = d) : Ending.returned (.tuple #[.int .i32 a, .int .i64 c, .bool d]) = .returned (.tuple #[.int .i32 a', .int .i64 c', .bool d']) := by rw [h1, h2, h3]

set_option maxHeartbeats 1000000 in
theorem decode_in (b off len cap i : Nat) (g : Nat → Int) (hg : ∀ j, 0 ≤ g j ∧ g j ≤ 255) (w : World) (hi : i < len) (hcap : len ≤ cap) (hm : cap ≤ maxLen)
    (hc : ∀ j, j < len → w.cell? ⟨b, off + j, none⟩ = some (.int .u8 (g j))) :
    Calls Tryd.prog 38 #[.slice (some ⟨b, off, none⟩) len cap, .int .i64 i] w fun e w' => e = .returned (.tuple #[.int .i32 (dRune g len i), .int .i64 (dSize g len i), .bool (dGood g len i)]) ∧ w' = w := by
  unfold maxLen at hm
  have hx := hg i
  have hci := hc i hi
  have hw4 := wid_le (g i)
  by_cases hz : wid (g i) = 0
  · have hz' : (((wid (g i) : Nat) : Int) == 0) = true := by rw [hz]; rfl
    obtain ⟨e1, e2, e3⟩ := dBad hi (bad_wid0 (len := len) hz)
    rw [e1, e2, e3]
    clear hz e1 e2 e3 hc
    go_enter Tryd.func38, Tryd.ntmps38
    go_wp2_with (go_at_call 58; refine (asked_any (g i) (by omega) (by omega) _).mono ?_; rintro e w' ⟨rfl, rfl⟩)
    go_ret3
    exact ⟨rfl, rfl⟩
  · have hz' : (((wid (g i) : Nat) : Int) == 0) = false := by simp [hz]
    by_cases hl : len < i + wid (g i)
    · obtain ⟨e1, e2, e3⟩ := dBad hi (bad_len (len := len) hl)
      rw [e1, e2, e3]
      have hl' : (len : Int) - i < wid (g i) := by omega
      clear hz e1 e2 e3 hc hl
      go_enter Tryd.func38, Tryd.ntmps38
      go_wp2_with (go_at_call 58; refine (asked_any (g i) (by omega) (by omega) _).mono ?_; rintro e w' ⟨rfl, rfl⟩)
      go_ret3
      exact ⟨rfl, rfl⟩
    · have hl' : (wid (g i) : Int) ≤ (len : Int) - i := by omega
      have hlB : decide ((len : Int) - i < wid (g i)) = false := by simp; omega
      have hi0 : decide ((i : Int) < 0) = false := by simp
      by_cases hone : cap = i + 1
      · have hw1 : wid (g i) = 1 := by omega
        have HW : Hid (wid (g i) = 1) := hw1
        clear hw1
        go_enter Tryd.func38, Tryd.ntmps38
        go_wp2_with (go_at_call 58; refine (asked_any (g i) (by omega) (by omega) _).mono ?_; rintro e w' ⟨rfl, rfl⟩)
        go_loop [8, 47] (fun r k => ∃ m : Nat, m ≤ wid (g i) - 1 ∧ k = .int .i64 m ∧ r = .int .i32 (acc g i m) ∧ conts g i m = true) (fun _ k => 4 - (intOf k).toNat)
        case atStart => exact ⟨0, Nat.zero_le _, rfl, rfl, rfl⟩
        case round =>
          obtain ⟨m, hmle, rfl, rfl, hcn⟩ := hrel
          by_cases hlt : m < wid (g i) - 1
          · have := HW.out; omega
          · obtain rfl : m = wid (g i) - 1 := by omega
            have hlt' : ¬ (((wid (g i) - 1 : Nat) : Int) < ((i + wid (g i) - (i + 1) : Nat) : Int)) := by omega
            by_cases hls : acc g i (wid (g i) - 1) < lst (g i)
            · have HD := hide (dBad hi (bad_lst (len := len) hls))
              clear hc
              go_wp2
              go_ret3
              exact ⟨dec_ret (unhide HD).1 (unhide HD).2.1 (unhide HD).2.2, rfl⟩
            · cases hal : alw (acc g i (wid (g i) - 1)) with
              | false =>
                have HD := hide (dBad hi (bad_alw (len := len) hal))
                clear hc
                go_wp2_with (go_at_call 59; refine (allowed_any _ _).mono ?_; rintro e w' ⟨rfl, rfl⟩)
                go_ret3
                exact ⟨dec_ret (unhide HD).1 (unhide HD).2.1 (unhide HD).2.2, rfl⟩
              | true =>
                have HD := hide (dYes hi (good_of (len := len) hz (by omega) hcn (by omega) hal))
                clear hc
                go_wp2_with (go_at_call 59; refine (allowed_any _ _).mono ?_; rintro e w' ⟨rfl, rfl⟩)
                go_ret3
                exact ⟨dec_ret (unhide HD).1 (unhide HD).2.1 (unhide HD).2.2, rfl⟩
      · have hone' : ¬ cap = i + 1 := hone
        go_enter Tryd.func38, Tryd.ntmps38
        go_wp2_with (go_at_call 58; refine (asked_any (g i) (by omega) (by omega) _).mono ?_; rintro e w' ⟨rfl, rfl⟩)
        go_loop [8, 47] (fun r k => ∃ m : Nat, m ≤ wid (g i) - 1 ∧ k = .int .i64 m ∧ r = .int .i32 (acc g i m) ∧ conts g i m = true) (fun _ k => 4 - (intOf k).toNat)
        case atStart => exact ⟨0, Nat.zero_le _, rfl, rfl, rfl⟩
        case round =>
          obtain ⟨m, hmle, rfl, rfl, hcn⟩ := hrel
          by_cases hlt : m < wid (g i) - 1
          · have hlt' : (m : Int) < ((i + wid (g i) - (i + 1) : Nat) : Int) := by omega
            have hcm := hc (i + 1 + m) (by omega)
            rw [show off + (i + 1 + m) = off + (i + 1) + m from by omega] at hcm
            have hgm := hg (i + 1 + m)
            have hab := acc_lt2 hx.1 (by omega) hcn
            by_cases hct : 128 ≤ g (i + 1 + m) ∧ g (i + 1 + m) ≤ 191
            · have hct' : (g (i + 1 + m) / 64 != 2) = false := by
                have : g (i + 1 + m) / 64 = 2 := by omega
                rw [this]; rfl
              have hrl : acc g i m * 64 + g (i + 1 + m) % 64 = acc g i (m + 1) := by simp only [acc]; omega
              have HR : Hid (acc g i m * 64 + g (i + 1 + m) % 64 = acc g i (m + 1)) := hrl
              have hcn1 : conts g i (m + 1) = true := by simp only [conts, hcn, Bool.true_and, decide_eq_true_eq]; exact hct
              clear hrl hc
              go_wp2
              go_round
              case rel => exact ⟨m + 1, by omega, by go_num, by rw [HR.out], hcn1⟩
              case measure => simp [intOf]; omega
            · have hct' : (g (i + 1 + m) / 64 != 2) = true := by
                rw [bne_iff_ne]; omega
              have HD := hide (dBad hi (bad_cont (len := len) hlt hct))
              clear hc
              go_wp2
              go_ret3
              exact ⟨dec_ret (unhide HD).1 (unhide HD).2.1 (unhide HD).2.2, rfl⟩
          · obtain rfl : m = wid (g i) - 1 := by omega
            have hlt' : ¬ (((wid (g i) - 1 : Nat) : Int) < ((i + wid (g i) - (i + 1) : Nat) : Int)) := by omega
            by_cases hls : acc g i (wid (g i) - 1) < lst (g i)
            · have HD := hide (dBad hi (bad_lst (len := len) hls))
              clear hc
              go_wp2
              go_ret3
              exact ⟨dec_ret (unhide HD).1 (unhide HD).2.1 (unhide HD).2.2, rfl⟩
            · cases hal : alw (acc g i (wid (g i) - 1)) with
              | false =>
                have HD := hide (dBad hi (bad_alw (len := len) hal))
                clear hc
                go_wp2_with (go_at_call 59; refine (allowed_any _ _).mono ?_; rintro e w' ⟨rfl, rfl⟩)
                go_ret3
                exact ⟨dec_ret (unhide HD).1 (unhide HD).2.1 (unhide HD).2.2, rfl⟩
              | true =>
                have HD := hide (dYes hi (good_of (len := len) hz (by omega) hcn (by omega) hal))
                clear hc
                go_wp2_with (go_at_call 59; refine (allowed_any _ _).mono ?_; rintro e w' ⟨rfl, rfl⟩)
                go_ret3
                exact ⟨dec_ret (unhide HD).1 (unhide HD).2.1 (unhide HD).2.2, rfl⟩
end Go.Proofs.YtpdkeggiokebmaaDoor

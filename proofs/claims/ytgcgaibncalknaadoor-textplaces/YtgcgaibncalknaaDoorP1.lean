/- The document's own Place (package shuckref1), walked: the line and the column behind the runes that end at a place or ahead of it. -/
import Derived.Test.YtgcgaibncalknaaDoorP0
import Derived.Test.YtgcgaibncalknaaDoorF1
namespace Go.Proofs.YtgcgaibncalknaaDoor
set_option linter.unusedSimpArgs false
set_option linter.unusedVariables false
open Go.RowKit

theorem two_ret {a a' c c' : Int} (h1 : a' = a) (h2 : c' = c) : Ending.returned (.tuple #[.int .i64 a, .int .i64 c]) = .returned (.tuple #[.int .i64 a', .int .i64 c']) := by rw [h1, h2]

set_option maxRecDepth 100000 in
set_option maxHeartbeats 2000000 in
theorem rplace_mid (b off len cap : Nat) (g : Nat → Int) (hg : ∀ j, 0 ≤ g j ∧ g j ≤ 255) (q : Nat) (hq : q ≤ len) (k : Nat) (w : World) (hlen : len ≤ 4294967296) (hcap : len ≤ cap) (hm : cap ≤ maxLen) (hb : b < w.heap.size)
    (hc : ∀ j, j < len → w.cell? ⟨b, off + j, none⟩ = some (.int .u8 (g j))) (hk : Before g len k) (hq1 : posn g len k ≤ q) (hq2 : posn g len k = len ∨ q < posn g len (k + 1)) :
    Calls Tryd.prog 21 #[.slice (some ⟨b, off, none⟩) len cap, .int .i64 (q : Int)] w fun e w' => e = .returned (.tuple #[.int .i64 (plcL (upto (endAt g len) k)), .int .i64 (plcC (upto (endAt g len) k))]) ∧ Below w.heap.size w w' := by
  have hql : q ≤ len := by omega
  obtain ⟨e1, s, hs, e2, e3⟩ := plc_at (fun j => (hg j).1) hk hq1 hql hq2
  have HE1 := hide e1
  have HE2 := hide e2
  have HE3 := hide e3
  have HM := hide hm
  have HK := hide hk
  have HQ2 := hide hq2
  clear e1 e2 e3 hk hq2
  unfold maxLen at hm
  have hd0 : decide ((q : Int) < 0) = false := by simp
  have hd1 : decide ((len : Int) < (q : Int)) = false := by simp; omega
  go_enter Tryd.func21, Tryd.ntmps21
  go_wp2
  go_loop [6, 7, 8] (fun ln fs i => ∃ m : Nat, m ≤ q ∧ i = .int .i64 m ∧ ln = .int .i64 (lnR g m) ∧ fs = .int .i64 (fsR g m)) (fun _ _ i => q - (intOf i).toNat)
  case atStart => exact ⟨0, Nat.zero_le _, rfl, rfl, rfl⟩
  case round =>
    obtain ⟨m, hmq, rfl, rfl, rfl⟩ := hrel
    have hlb := lnR_bd g m
    have hfl := fsR_le g m
    by_cases hlt : m < q
    · have hlt' : (m : Int) < (q : Int) := by omega
      have hcm := hc m (by omega)
      clear hc
      by_cases h10 : g m = 10
      · have hb10 : (g m == 10) = true := by simp [h10]
        have HL : Hid (lnR g (m + 1) = lnR g m + 1 ∧ fsR g (m + 1) = m + 1) := ⟨by simp only [lnR, if_pos h10], by simp only [fsR, if_pos h10]⟩
        clear h10
        go_wp2
        go_round
        case rel => exact ⟨m + 1, by omega, by go_num, by rw [(unhide HL).1], by rw [(unhide HL).2]; go_num⟩
        case measure => simp [intOf]; omega
      · have hb10 : (g m == 10) = false := by simp [h10]
        have HL : Hid (lnR g (m + 1) = lnR g m ∧ fsR g (m + 1) = fsR g m) := ⟨by simp only [lnR, if_neg h10], by simp only [fsR, if_neg h10]⟩
        clear h10
        go_wp2
        go_round
        case rel => exact ⟨m + 1, by omega, by go_num, by rw [(unhide HL).1], by rw [(unhide HL).2]⟩
        case measure => simp [intOf]; omega
    · obtain rfl : q = m := by omega
      have hlt' : ¬ ((q : Int) < (q : Int)) := by omega
      go_wp2
      go_loopw [7, 9] (fun fs cl wr => ∃ (j : Nat) (c : Int), s ≤ j ∧ fs = .int .i64 (posn g len j) ∧ cl = .int .i64 c ∧ ((j ≤ k ∧ c = (j : Int) - s + 1) ∨ (j = k + 1 ∧ c = (k : Int) - s + 1 ∧ q < posn g len j)) ∧ Below w.heap.size w wr) (fun fs _ _ => len - (intOf fs).toNat)
      case atStart => exact ⟨s, 1, Nat.le_refl _, by rw [unhide HE2], rfl, .inl ⟨hs, by omega⟩, Below.refl _ _⟩
      case round =>
        obtain ⟨j, c, hsj, rfl, rfl, hjc, hB⟩ := hrel
        have HJC := hide hjc
        clear hjc
        by_cases hjq : posn g len j < q
        · have hjk : j ≤ k ∧ c = (j : Int) - s + 1 := by
            rcases unhide HJC with h | ⟨_, _, h⟩
            · exact h
            · omega
          obtain ⟨hjk, hcj⟩ := hjk
          have HCJ := hide hcj
          have hjb : posn g len j < len := by omega
          have hkl := posn_ge (unhide HK)
          have hpk := posn_le g len k
          have hc0 : 0 ≤ c ∧ c ≤ 4294967297 := by omega
          clear hcj
          have hjq' : (posn g len j : Int) < (q : Int) := by omega
          have hds := dSize_nat g len (posn g len j)
          have hsl := step_le (g := g) (Nat.le_of_lt hjb)
          have hsp := step_pos (g := g) hjb
          have HC := hide (fun (i : Nat) (hi : i < len) => (hB.cell (p := ⟨b, off + i, none⟩) hb).trans (hc i hi))
          have HP : Hid (posn g len (j + 1) = posn g len j + stepN g len (posn g len j)) := rfl
          clear hc
          by_cases hj : j < k
          · have hle : ((posn g len j : Int) + stepN g len (posn g len j) ≤ (q : Int)) := by
              have h1 := posn_mono (g := g) (len := len) (j := j + 1) (k := k) (by omega)
              rw [unhide HP] at h1
              omega
            go_wp2_with (go_at_call 10; refine (rdecode_in b off len cap (posn g len j) g hg _ hjb hcap (unhide HM) (unhide HC)).mono ?_; rintro e w2 ⟨rfl, hb2⟩)
            go_roundw
            case rel => exact ⟨j + 1, c + 1, by omega, by rw [unhide HP]; go_num, rfl, .inl ⟨by omega, by rw [unhide HCJ]; omega⟩, (hB.trans (hb2.mono hB.size)).alloc (Nat.le_trans hB.size hb2.size) _⟩
            case measure => simp [intOf]; omega
          · obtain rfl : j = k := by omega
            have hgt : q < posn g len (j + 1) := by
              rcases unhide HQ2 with h | h
              · omega
              · exact h
            have hle : ¬ ((posn g len j : Int) + stepN g len (posn g len j) ≤ (q : Int)) := by
              rw [unhide HP] at hgt
              omega
            have HGT := hide hgt
            clear hgt
            go_wp2_with (go_at_call 10; refine (rdecode_in b off len cap (posn g len j) g hg _ hjb hcap (unhide HM) (unhide HC)).mono ?_; rintro e w2 ⟨rfl, hb2⟩)
            go_roundw
            case rel => exact ⟨j + 1, c, by omega, by rw [unhide HP]; go_num, rfl, .inr ⟨rfl, unhide HCJ, unhide HGT⟩, (hB.trans (hb2.mono hB.size)).alloc (Nat.le_trans hB.size hb2.size) _⟩
            case measure => simp [intOf]; omega
        · have hjq' : ¬ ((posn g len j : Int) < (q : Int)) := by omega
          have HF : Hid (plcC (upto (endAt g len) k) = c) := by
            show _ = c
            rw [unhide HE3]
            rcases unhide HJC with ⟨h1, h2⟩ | ⟨_, h2, _⟩
            · by_cases e : j = k
              · subst e; exact h2.symm
              · have := posn_strict (unhide HK) (show j < k by omega); omega
            · exact h2.symm
          go_wp2
          go_ret2
          exact ⟨two_ret (unhide HE1).symm (unhide HF), hB⟩

set_option maxRecDepth 100000 in
set_option maxHeartbeats 2000000 in
theorem rplace_lo (b off len cap : Nat) (g : Nat → Int) (hg : ∀ j, 0 ≤ g j ∧ g j ≤ 255) (p : Int) (hp : p < 0) (k : Nat) (w : World) (hlen : len ≤ 4294967296) (hcap : len ≤ cap) (hm : cap ≤ maxLen) (hb : b < w.heap.size)
    (hc : ∀ j, j < len → w.cell? ⟨b, off + j, none⟩ = some (.int .u8 (g j))) (hk : Before g len k) (hq1 : posn g len k ≤ 0) (hq2 : posn g len k = len ∨ 0 < posn g len (k + 1)) :
    Calls Tryd.prog 21 #[.slice (some ⟨b, off, none⟩) len cap, .int .i64 p] w fun e w' => e = .returned (.tuple #[.int .i64 (plcL (upto (endAt g len) k)), .int .i64 (plcC (upto (endAt g len) k))]) ∧ Below w.heap.size w w' := by
  have hql : 0 ≤ len := by omega
  obtain ⟨e1, s, hs, e2, e3⟩ := plc_at (fun j => (hg j).1) hk hq1 hql hq2
  have HE1 := hide e1
  have HE2 := hide e2
  have HE3 := hide e3
  have HM := hide hm
  have HK := hide hk
  have HQ2 := hide hq2
  clear e1 e2 e3 hk hq2
  unfold maxLen at hm
  have hp1 : ¬ ((len : Int) < 0) := by omega
  have hd1 : decide ((len : Int) < 0) = false := by simp
  go_enter Tryd.func21, Tryd.ntmps21
  go_wp2
  go_loop [6, 7, 8] (fun ln fs i => ∃ m : Nat, m ≤ 0 ∧ i = .int .i64 m ∧ ln = .int .i64 (lnR g m) ∧ fs = .int .i64 (fsR g m)) (fun _ _ i => 0 - (intOf i).toNat)
  case atStart => exact ⟨0, Nat.zero_le _, rfl, rfl, rfl⟩
  case round =>
    obtain ⟨m, hmq, rfl, rfl, rfl⟩ := hrel
    have hlb := lnR_bd g m
    have hfl := fsR_le g m
    by_cases hlt : m < 0
    · have hlt' : (m : Int) < (0 : Int) := by omega
      have hcm := hc m (by omega)
      clear hc
      by_cases h10 : g m = 10
      · have hb10 : (g m == 10) = true := by simp [h10]
        have HL : Hid (lnR g (m + 1) = lnR g m + 1 ∧ fsR g (m + 1) = m + 1) := ⟨by simp only [lnR, if_pos h10], by simp only [fsR, if_pos h10]⟩
        clear h10
        go_wp2
        go_round
        case rel => exact ⟨m + 1, by omega, by go_num, by rw [(unhide HL).1], by rw [(unhide HL).2]; go_num⟩
        case measure => simp [intOf]; omega
      · have hb10 : (g m == 10) = false := by simp [h10]
        have HL : Hid (lnR g (m + 1) = lnR g m ∧ fsR g (m + 1) = fsR g m) := ⟨by simp only [lnR, if_neg h10], by simp only [fsR, if_neg h10]⟩
        clear h10
        go_wp2
        go_round
        case rel => exact ⟨m + 1, by omega, by go_num, by rw [(unhide HL).1], by rw [(unhide HL).2]⟩
        case measure => simp [intOf]; omega
    · obtain rfl : 0 = m := by omega
      have hlt' : ¬ ((0 : Int) < (0 : Int)) := by omega
      go_wp2
      go_loopw [7, 9] (fun fs cl wr => ∃ (j : Nat) (c : Int), s ≤ j ∧ fs = .int .i64 (posn g len j) ∧ cl = .int .i64 c ∧ ((j ≤ k ∧ c = (j : Int) - s + 1) ∨ (j = k + 1 ∧ c = (k : Int) - s + 1 ∧ 0 < posn g len j)) ∧ Below w.heap.size w wr) (fun fs _ _ => len - (intOf fs).toNat)
      case atStart => exact ⟨s, 1, Nat.le_refl _, by rw [unhide HE2], rfl, .inl ⟨hs, by omega⟩, Below.refl _ _⟩
      case round =>
        obtain ⟨j, c, hsj, rfl, rfl, hjc, hB⟩ := hrel
        have HJC := hide hjc
        clear hjc
        by_cases hjq : posn g len j < 0
        · exact absurd hjq (Nat.not_lt_zero _)
        · have hjq' : ¬ ((posn g len j : Int) < (0 : Int)) := by omega
          have HF : Hid (plcC (upto (endAt g len) k) = c) := by
            show _ = c
            rw [unhide HE3]
            rcases unhide HJC with ⟨h1, h2⟩ | ⟨_, h2, _⟩
            · by_cases e : j = k
              · subst e; exact h2.symm
              · have := posn_strict (unhide HK) (show j < k by omega); omega
            · exact h2.symm
          go_wp2
          go_ret2
          exact ⟨two_ret (unhide HE1).symm (unhide HF), hB⟩

set_option maxRecDepth 100000 in
set_option maxHeartbeats 2000000 in
theorem rplace_hi (b off len cap : Nat) (g : Nat → Int) (hg : ∀ j, 0 ≤ g j ∧ g j ≤ 255) (p : Int) (hp : (len : Int) < p) (k : Nat) (w : World) (hlen : len ≤ 4294967296) (hcap : len ≤ cap) (hm : cap ≤ maxLen) (hb : b < w.heap.size)
    (hc : ∀ j, j < len → w.cell? ⟨b, off + j, none⟩ = some (.int .u8 (g j))) (hk : Before g len k) (hq1 : posn g len k ≤ len) (hq2 : posn g len k = len ∨ len < posn g len (k + 1)) :
    Calls Tryd.prog 21 #[.slice (some ⟨b, off, none⟩) len cap, .int .i64 p] w fun e w' => e = .returned (.tuple #[.int .i64 (plcL (upto (endAt g len) k)), .int .i64 (plcC (upto (endAt g len) k))]) ∧ Below w.heap.size w w' := by
  have hql : len ≤ len := by omega
  obtain ⟨e1, s, hs, e2, e3⟩ := plc_at (fun j => (hg j).1) hk hq1 hql hq2
  have HE1 := hide e1
  have HE2 := hide e2
  have HE3 := hide e3
  have HM := hide hm
  have HK := hide hk
  have HQ2 := hide hq2
  clear e1 e2 e3 hk hq2
  unfold maxLen at hm
  have hp1 : ¬ (p < 0) := by omega
  have hd0 : decide (p < 0) = false := by simp; omega
  go_enter Tryd.func21, Tryd.ntmps21
  go_wp2
  go_loop [6, 7, 8] (fun ln fs i => ∃ m : Nat, m ≤ len ∧ i = .int .i64 m ∧ ln = .int .i64 (lnR g m) ∧ fs = .int .i64 (fsR g m)) (fun _ _ i => len - (intOf i).toNat)
  case atStart => exact ⟨0, Nat.zero_le _, rfl, rfl, rfl⟩
  case round =>
    obtain ⟨m, hmq, rfl, rfl, rfl⟩ := hrel
    have hlb := lnR_bd g m
    have hfl := fsR_le g m
    by_cases hlt : m < len
    · have hlt' : (m : Int) < (len : Int) := by omega
      have hcm := hc m (by omega)
      clear hc
      by_cases h10 : g m = 10
      · have hb10 : (g m == 10) = true := by simp [h10]
        have HL : Hid (lnR g (m + 1) = lnR g m + 1 ∧ fsR g (m + 1) = m + 1) := ⟨by simp only [lnR, if_pos h10], by simp only [fsR, if_pos h10]⟩
        clear h10
        go_wp2
        go_round
        case rel => exact ⟨m + 1, by omega, by go_num, by rw [(unhide HL).1], by rw [(unhide HL).2]; go_num⟩
        case measure => simp [intOf]; omega
      · have hb10 : (g m == 10) = false := by simp [h10]
        have HL : Hid (lnR g (m + 1) = lnR g m ∧ fsR g (m + 1) = fsR g m) := ⟨by simp only [lnR, if_neg h10], by simp only [fsR, if_neg h10]⟩
        clear h10
        go_wp2
        go_round
        case rel => exact ⟨m + 1, by omega, by go_num, by rw [(unhide HL).1], by rw [(unhide HL).2]⟩
        case measure => simp [intOf]; omega
    · obtain rfl : len = m := by omega
      have hlt' : ¬ ((len : Int) < (len : Int)) := by omega
      go_wp2
      go_loopw [7, 9] (fun fs cl wr => ∃ (j : Nat) (c : Int), s ≤ j ∧ fs = .int .i64 (posn g len j) ∧ cl = .int .i64 c ∧ ((j ≤ k ∧ c = (j : Int) - s + 1) ∨ (j = k + 1 ∧ c = (k : Int) - s + 1 ∧ len < posn g len j)) ∧ Below w.heap.size w wr) (fun fs _ _ => len - (intOf fs).toNat)
      case atStart => exact ⟨s, 1, Nat.le_refl _, by rw [unhide HE2], rfl, .inl ⟨hs, by omega⟩, Below.refl _ _⟩
      case round =>
        obtain ⟨j, c, hsj, rfl, rfl, hjc, hB⟩ := hrel
        have HJC := hide hjc
        clear hjc
        by_cases hjq : posn g len j < len
        · have hjk : j ≤ k ∧ c = (j : Int) - s + 1 := by
            rcases unhide HJC with h | ⟨_, _, h⟩
            · exact h
            · omega
          obtain ⟨hjk, hcj⟩ := hjk
          have HCJ := hide hcj
          have hjb : posn g len j < len := by omega
          have hkl := posn_ge (unhide HK)
          have hpk := posn_le g len k
          have hc0 : 0 ≤ c ∧ c ≤ 4294967297 := by omega
          clear hcj
          have hjq' : (posn g len j : Int) < (len : Int) := by omega
          have hds := dSize_nat g len (posn g len j)
          have hsl := step_le (g := g) (Nat.le_of_lt hjb)
          have hsp := step_pos (g := g) hjb
          have HC := hide (fun (i : Nat) (hi : i < len) => (hB.cell (p := ⟨b, off + i, none⟩) hb).trans (hc i hi))
          have HP : Hid (posn g len (j + 1) = posn g len j + stepN g len (posn g len j)) := rfl
          clear hc
          by_cases hj : j < k
          · have hle : ((posn g len j : Int) + stepN g len (posn g len j) ≤ (len : Int)) := by
              have h1 := posn_mono (g := g) (len := len) (j := j + 1) (k := k) (by omega)
              rw [unhide HP] at h1
              omega
            go_wp2_with (go_at_call 10; refine (rdecode_in b off len cap (posn g len j) g hg _ hjb hcap (unhide HM) (unhide HC)).mono ?_; rintro e w2 ⟨rfl, hb2⟩)
            go_roundw
            case rel => exact ⟨j + 1, c + 1, by omega, by rw [unhide HP]; go_num, rfl, .inl ⟨by omega, by rw [unhide HCJ]; omega⟩, (hB.trans (hb2.mono hB.size)).alloc (Nat.le_trans hB.size hb2.size) _⟩
            case measure => simp [intOf]; omega
          · obtain rfl : j = k := by omega
            have hgt : len < posn g len (j + 1) := by
              rcases unhide HQ2 with h | h
              · omega
              · exact h
            have := posn_le g len (j + 1)
            omega
        · have hjq' : ¬ ((posn g len j : Int) < (len : Int)) := by omega
          have HF : Hid (plcC (upto (endAt g len) k) = c) := by
            show _ = c
            rw [unhide HE3]
            rcases unhide HJC with ⟨h1, h2⟩ | ⟨_, h2, _⟩
            · by_cases e : j = k
              · subst e; exact h2.symm
              · have := posn_strict (unhide HK) (show j < k by omega); omega
            · exact h2.symm
          go_wp2
          go_ret2
          exact ⟨two_ret (unhide HE1).symm (unhide HF), hB⟩

set_option maxHeartbeats 1000000 in
theorem rplace_zlo (a : Option Addr) (cap : Nat) (p : Int) (hp : p < 0) (w : World) :
    Calls Tryd.prog 21 #[.slice a 0 cap, .int .i64 p] w fun e w' => e = .returned (.tuple #[.int .i64 1, .int .i64 1]) ∧ Below w.heap.size w w' := by
  go_enter Tryd.func21, Tryd.ntmps21
  go_wp2
  go_loop [6, 7, 8] (fun ln fs i => ln = .int .i64 1 ∧ fs = .int .i64 0 ∧ i = .int .i64 0) (fun _ _ _ => 0)
  case atStart => exact ⟨rfl, rfl, rfl⟩
  case round =>
    obtain ⟨rfl, rfl, rfl⟩ := hrel
    go_wp2
    go_loop [7, 9] (fun fs cl => fs = .int .i64 0 ∧ cl = .int .i64 1) (fun _ _ => 0)
    case atStart => exact ⟨rfl, rfl⟩
    case round =>
      obtain ⟨rfl, rfl⟩ := hrel
      go_wp2
      go_ret2
      exact ⟨rfl, Below.refl _ _⟩

set_option maxHeartbeats 1000000 in
theorem rplace_zhi (a : Option Addr) (cap : Nat) (p : Int) (hp : 0 < p) (w : World) :
    Calls Tryd.prog 21 #[.slice a 0 cap, .int .i64 p] w fun e w' => e = .returned (.tuple #[.int .i64 1, .int .i64 1]) ∧ Below w.heap.size w w' := by
  have hp1 : ¬ (p < 0) := by omega
  have hd0 : decide (p < 0) = false := by simp; omega
  go_enter Tryd.func21, Tryd.ntmps21
  go_wp2
  go_loop [6, 7, 8] (fun ln fs i => ln = .int .i64 1 ∧ fs = .int .i64 0 ∧ i = .int .i64 0) (fun _ _ _ => 0)
  case atStart => exact ⟨rfl, rfl, rfl⟩
  case round =>
    obtain ⟨rfl, rfl, rfl⟩ := hrel
    go_wp2
    go_loop [7, 9] (fun fs cl => fs = .int .i64 0 ∧ cl = .int .i64 1) (fun _ _ => 0)
    case atStart => exact ⟨rfl, rfl⟩
    case round =>
      obtain ⟨rfl, rfl⟩ := hrel
      go_wp2
      go_ret2
      exact ⟨rfl, Below.refl _ _⟩

set_option maxHeartbeats 1000000 in
theorem rplace_zmid (a : Option Addr) (cap : Nat)  (w : World) :
    Calls Tryd.prog 21 #[.slice a 0 cap, .int .i64 0] w fun e w' => e = .returned (.tuple #[.int .i64 1, .int .i64 1]) ∧ Below w.heap.size w w' := by
  go_enter Tryd.func21, Tryd.ntmps21
  go_wp2
  go_loop [6, 7, 8] (fun ln fs i => ln = .int .i64 1 ∧ fs = .int .i64 0 ∧ i = .int .i64 0) (fun _ _ _ => 0)
  case atStart => exact ⟨rfl, rfl, rfl⟩
  case round =>
    obtain ⟨rfl, rfl, rfl⟩ := hrel
    go_wp2
    go_loop [7, 9] (fun fs cl => fs = .int .i64 0 ∧ cl = .int .i64 1) (fun _ _ => 0)
    case atStart => exact ⟨rfl, rfl⟩
    case round =>
      obtain ⟨rfl, rfl⟩ := hrel
      go_wp2
      go_ret2
      exact ⟨rfl, Below.refl _ _⟩

/-- The document's Place at any row of bytes and any place, where the k-th rune is met. -/
theorem rplace_any {b : Nat} {a : Option Addr} {len cap : Nat} {g : Nat → Int} (hg : ∀ j, 0 ≤ g j ∧ g j ≤ 255) (p : Int) (k : Nat) (w : World) (hlen : len ≤ 4294967296) (hS : Sl w b (.slice a len cap) len g) (hb : b < w.heap.size)
    (hk : Before g len k) (hq1 : posn g len k ≤ clampP len p) (hq2 : posn g len k = len ∨ clampP len p < posn g len (k + 1)) :
    Calls Tryd.prog 21 #[.slice a len cap, .int .i64 p] w fun e w' => e = .returned (.tuple #[.int .i64 (plcL (upto (endAt g len) k)), .int .i64 (plcC (upto (endAt g len) k))]) ∧ Below w.heap.size w w' := by
  rcases hS with ⟨a', cap', e, rfl⟩ | ⟨off, cap', e, h0, h1, h2, hc⟩
  · cases e
    have hk0 : k = 0 := by
      rcases Nat.eq_zero_or_pos k with h | h
      · exact h
      · have := hk 0 h; omega
    subst hk0
    have r1 : plcL (upto (endAt g 0) 0) = 1 := rfl
    have r2 : plcC (upto (endAt g 0) 0) = 1 := rfl
    rw [r1, r2]
    by_cases hp : p < 0
    · exact rplace_zlo a cap p hp w
    · by_cases hp2 : 0 < p
      · exact rplace_zhi a cap p hp2 w
      · obtain rfl : p = 0 := by omega
        exact rplace_zmid a cap w
  · cases e
    by_cases hp : p < 0
    · have e0 : clampP len p = 0 := by simp [clampP, hp]
      rw [e0] at hq1 hq2
      exact rplace_lo b off len cap g hg p hp k w hlen h1 h2 hb hc hk hq1 hq2
    · by_cases hp2 : (len : Int) < p
      · have e0 : clampP len p = len := by unfold clampP; rw [if_neg hp, if_neg (by omega)]
        rw [e0] at hq1 hq2
        exact rplace_hi b off len cap g hg p hp2 k w hlen h1 h2 hb hc hk hq1 hq2
      · have e0 : clampP len p = p.toNat := by unfold clampP; rw [if_neg hp]; split <;> omega
        rw [e0] at hq1 hq2
        have := rplace_mid b off len cap g hg p.toNat (by omega) k w hlen h1 h2 hb hc hk hq1 hq2
        rw [Int.toNat_of_nonneg (by omega)] at this
        exact this
end Go.Proofs.YtgcgaibncalknaaDoor

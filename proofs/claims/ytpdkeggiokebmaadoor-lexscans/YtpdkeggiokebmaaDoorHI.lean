/- Merged: N1, N6. -/
import Derived.LoopN
import Derived.OwnWalk
import Derived.WalkMore
import Derived.Test.YtpdkeggiokebmaaDoorHB
import Derived.Test.YtpdkeggiokebmaaDoorN2
import Derived.Test.YtpdkeggiokebmaaDoorX2
import Derived.Test.YtpdkeggiokebmaaDoorX4
import Derived.Test.YtpdkeggiokebmaaDoorZP1
/- The reference's digits, blanks and remarks. -/
namespace Go.Proofs.YtpdkeggiokebmaaDoor
set_option linter.unusedSimpArgs false
set_option linter.unusedVariables false
open Go.RowKit Go.Shelf

set_option maxHeartbeats 1000000 in
theorem rdigit_any (c : Int) (hc : 0 ≤ c ∧ c ≤ 255) (w : World) : Calls Tryd.prog 75 #[.int .u8 c] w fun e w' => e = .returned (.int .i64 (hexD c)) ∧ w' = w := by
  have HR : Hid (hexD c = if 48 ≤ c ∧ c ≤ 57 then c - 48 else if 97 ≤ c ∧ c ≤ 102 then c - 87 else if 65 ≤ c ∧ c ≤ 70 then c - 55 else -1) := rfl
  rcases Int.lt_or_le c 48 with h1 | h1
  · have a1 : decide (48 ≤ c) = false := by simpa using h1
    have a2 : decide (97 ≤ c) = false := by simp; omega
    have a3 : decide (65 ≤ c) = false := by simp; omega
    go_enter Tryd.func75, Tryd.ntmps75
    go_wp2
    go_ret
    refine ⟨?_, rfl⟩
    rw [unhide HR, if_neg (by omega), if_neg (by omega), if_neg (by omega)]; rfl
  have a1 : decide (48 ≤ c) = true := by simpa using h1
  rcases Int.lt_or_le 57 c with h2 | h2
  · have b1 : decide (c ≤ 57) = false := by simpa using h2
    rcases Int.lt_or_le c 97 with h3 | h3
    · have a2 : decide (97 ≤ c) = false := by simpa using h3
      rcases Int.lt_or_le c 65 with h4 | h4
      · have a3 : decide (65 ≤ c) = false := by simpa using h4
        go_enter Tryd.func75, Tryd.ntmps75
        go_wp2
        go_ret
        refine ⟨?_, rfl⟩
        rw [unhide HR, if_neg (by omega), if_neg (by omega), if_neg (by omega)]; rfl
      · have a3 : decide (65 ≤ c) = true := by simpa using h4
        rcases Int.lt_or_le 70 c with h5 | h5
        · have b3 : decide (c ≤ 70) = false := by simpa using h5
          go_enter Tryd.func75, Tryd.ntmps75
          go_wp2
          go_ret
          refine ⟨?_, rfl⟩
          rw [unhide HR, if_neg (by omega), if_neg (by omega), if_neg (by omega)]; rfl
        · have b3 : decide (c ≤ 70) = true := by simpa using h5
          go_enter Tryd.func75, Tryd.ntmps75
          go_wp2
          go_ret
          refine ⟨?_, rfl⟩
          have e : c - 65 + 10 = hexD c := by rw [unhide HR, if_neg (by omega), if_neg (by omega), if_pos (by omega)]; omega
          rw [← e]; rfl
    · have a2 : decide (97 ≤ c) = true := by simpa using h3
      have a3 : decide (65 ≤ c) = true := by simp; omega
      rcases Int.lt_or_le 102 c with h4 | h4
      · have b2 : decide (c ≤ 102) = false := by simpa using h4
        have b3 : decide (c ≤ 70) = false := by simp; omega
        go_enter Tryd.func75, Tryd.ntmps75
        go_wp2
        go_ret
        refine ⟨?_, rfl⟩
        rw [unhide HR, if_neg (by omega), if_neg (by omega), if_neg (by omega)]; rfl
      · have b2 : decide (c ≤ 102) = true := by simpa using h4
        go_enter Tryd.func75, Tryd.ntmps75
        go_wp2
        go_ret
        refine ⟨?_, rfl⟩
        have e : c - 97 + 10 = hexD c := by rw [unhide HR, if_neg (by omega), if_pos (by omega)]; omega
        rw [← e]; rfl
  · have b1 : decide (c ≤ 57) = true := by simpa using h2
    go_enter Tryd.func75, Tryd.ntmps75
    go_wp2
    go_ret
    refine ⟨?_, rfl⟩
    rw [unhide HR, if_pos (by omega)]; rfl
end Go.Proofs.YtpdkeggiokebmaaDoor

/- The reference's escape. -/
namespace Go.Proofs.YtpdkeggiokebmaaDoor
set_option linter.unusedSimpArgs false
set_option linter.unusedVariables false
open Go.RowKit Go.Shelf

/-- What an escape gives: its text, the byte behind it, is it one? -/
def escS (x : Option (Int × Nat)) : ByteArray := match x with
  | some (r, _) => strOfNums (Lib.encodeRuneZ r)
  | none => ⟨#[]⟩
def escN (at' : Nat) (x : Option (Int × Nat)) : Int := match x with
  | some (_, w) => (at' : Int) + w
  | none => (at' : Int)
def escB (x : Option (Int × Nat)) : Bool := match x with
  | some _ => true
  | none => false
theorem hexV_six {g : Nat → Int} {i n : Nat} (hn : n ≤ 6) (h : ∀ j, j < n → hexB (g (i + j)) = true) : 0 ≤ hexV g i n ∧ hexV g i n < 16777216 := by
  have h1 := hexV_bd h
  have h2 : n = 0 ∨ n = 1 ∨ n = 2 ∨ n = 3 ∨ n = 4 ∨ n = 5 ∨ n = 6 := by omega
  rcases h2 with rfl | rfl | rfl | rfl | rfl | rfl | rfl <;> simp at h1 <;> omega
theorem sub_one (g : Nat → Int) (i : Nat) : sub g i (i + 1) = [g i] := by
  rw [sub, show i + 1 - i = 1 from by omega]
  rfl

set_option maxRecDepth 100000 in
set_option maxHeartbeats 8000000 in
theorem rescape_any (c : Nat) (a : Option Addr) (len cap : Nat) (g : Nat → Int) (hg : ∀ j, 0 ≤ g j ∧ g j ≤ 255) (at' : Nat) (W : World) (hS : Sl W c (.slice a len cap) len g) (hat : at' < len) (hlen : len ≤ 1099511627776) :
    Calls Tryd.prog 62 #[.slice a len cap, .int .i64 (at' : Int)] W fun x W' => x = .returned (.tuple #[.string (escS (escE g len at')), .int .i64 (escN at' (escE g len at')), .bool (escB (escE g len at'))]) ∧ W' = W := by
  obtain ⟨off, rfl, hcp, hmx, hcs⟩ := unhide (sl_cells hS) (by omega)
  unfold maxLen at hmx
  obtain ⟨x, hx⟩ : ∃ x, escE g len at' = x := ⟨_, rfl⟩
  rw [hx]
  unfold escE at hx
  by_cases h1 : at' + 1 < len
  · have h1' : (at' : Int) + 1 < len := by omega
    have h1g : ¬ (len : Int) ≤ (at' : Int) + 1 := by omega
    rw [if_neg (fun h => h h1)] at hx
    have hc1 : W.cell? ⟨c, off + (at' + 1), none⟩ = some (.int .u8 (g (at' + 1))) := hcs _ h1
    by_cases q110 : g (at' + 1) = 110
    · rw [if_pos q110] at hx
      subst hx
      rw [q110] at hc1
      clear hcs hS
      go_enter Tryd.func62, Tryd.ntmps62
      go_wp2
      go_ret3
      exact ⟨rfl, rfl⟩
    rw [if_neg q110] at hx
    have b110 : (g (at' + 1) == 110) = false := beq_eq_false_iff_ne.2 q110
    by_cases q114 : g (at' + 1) = 114
    · rw [if_pos q114] at hx
      subst hx
      rw [q114] at hc1
      clear hcs hS
      go_enter Tryd.func62, Tryd.ntmps62
      go_wp2
      go_ret3
      exact ⟨rfl, rfl⟩
    rw [if_neg q114] at hx
    have b114 : (g (at' + 1) == 114) = false := beq_eq_false_iff_ne.2 q114
    by_cases q116 : g (at' + 1) = 116
    · rw [if_pos q116] at hx
      subst hx
      rw [q116] at hc1
      clear hcs hS
      go_enter Tryd.func62, Tryd.ntmps62
      go_wp2
      go_ret3
      exact ⟨rfl, rfl⟩
    rw [if_neg q116] at hx
    have b116 : (g (at' + 1) == 116) = false := beq_eq_false_iff_ne.2 q116
    by_cases q48 : g (at' + 1) = 48
    · rw [if_pos q48] at hx
      subst hx
      rw [q48] at hc1
      clear hcs hS
      go_enter Tryd.func62, Tryd.ntmps62
      go_wp2
      go_ret3
      exact ⟨rfl, rfl⟩
    rw [if_neg q48] at hx
    have b48 : (g (at' + 1) == 48) = false := beq_eq_false_iff_ne.2 q48
    by_cases hq : g (at' + 1) = 92 ∨ g (at' + 1) = 34 ∨ g (at' + 1) = 39 ∨ g (at' + 1) = 36 ∨ g (at' + 1) = 96
    · rw [if_pos hq] at hx
      subst hx
      obtain ⟨sv', hsl, hcv⟩ := cut_conv hS (by omega : at' + 1 ≤ at' + 1 + 1) (by omega)
      have hsl2 : ∀ W', (Instr.slice 22 (.slice (some ⟨c, off, none⟩) len cap) (some (.int .i64 ((at' : Int) + 1))) (some (.int .i64 ((at' : Int) + 2))) none).run Tryd.prog W' = .ok sv' W' := hsl
      have hcv1 := hcv _ hS
      rw [sub_one] at hcv1
      have HS : Hid (escS (some (g (at' + 1), 2)) = strOfNums [g (at' + 1)]) := by show strOfNums (Lib.encodeRuneZ _) = _; rw [Lib.encodeRuneZ_one (by omega) (by omega)]
      have HN : Hid (escN at' (some (g (at' + 1), 2)) = (at' : Int) + 2) := rfl
      clear hcs hS hcv
      rcases hq with h | h | h | h | h
      all_goals (
        rw [h] at hc1 HS HN hcv1 ⊢
        go_enter Tryd.func62, Tryd.ntmps62
        go_wp2
        go_ret3
        rw [unhide HS]
        exact ⟨rfl, rfl⟩)
    rw [if_neg hq] at hx
    have hq' : g (at' + 1) ≠ 92 ∧ g (at' + 1) ≠ 34 ∧ g (at' + 1) ≠ 39 ∧ g (at' + 1) ≠ 36 ∧ g (at' + 1) ≠ 96 := by omega
    obtain ⟨w1, w2, w3, w4, w5⟩ := hq'
    have b92 : (g (at' + 1) == 92) = false := beq_eq_false_iff_ne.2 w1
    have b34 : (g (at' + 1) == 34) = false := beq_eq_false_iff_ne.2 w2
    have b39 : (g (at' + 1) == 39) = false := beq_eq_false_iff_ne.2 w3
    have b36 : (g (at' + 1) == 36) = false := beq_eq_false_iff_ne.2 w4
    have b96 : (g (at' + 1) == 96) = false := beq_eq_false_iff_ne.2 w5
    clear w1 w2 w3 w4 w5 hq q110 q114 q116 q48
    by_cases h117 : g (at' + 1) = 117
    · unfold numE at hx
      have b117 : (g (at' + 1) == 117) = true := by rw [h117]; rfl
      have hcase : ∃ e, e = stopI hexB g len (at' + 3) := ⟨_, rfl⟩
      obtain ⟨e, he⟩ := hcase
      rw [← he] at hx
      have hsp : at' + 3 ≤ e ∧ e ≤ len + 1 ∧ (∀ j, at' + 3 ≤ j → j < e → hexB (g j) = true) ∧ (len ≤ e ∨ hexB (g e) = false) := by
        by_cases h3 : at' + 3 ≤ len
        · obtain ⟨a, b, c, d⟩ := stopI_spec (p := hexB) (g := g) h3
          rw [← he] at a b c d
          exact ⟨a, by omega, c, d.imp (fun h => by omega) id⟩
        · have : e = at' + 3 := by rw [he]; exact stopI_stop (fun h => by omega)
          exact ⟨by omega, by omega, fun j h1 h2 => by omega, .inl (by omega)⟩
      obtain ⟨s1, s2, s3, s4⟩ := hsp
      have HX := hide hx
      have HS3 := hide s3
      have HS4 := hide s4
      have HCJ := hide hcs
      clear hS hcs hx s3 s4 he
      go_enter Tryd.func62, Tryd.ntmps62
      go_wp2
      go_loopw [7, 8] (fun t7 t8 wr => ∃ k : Nat, at' + 3 ≤ k ∧ k ≤ e ∧ k ≤ at' + 9 ∧ t7 = .int .i64 (k : Int) ∧ t8 = .int .i64 (hexV g (at' + 3) (k - (at' + 3))) ∧ wr = W) (fun t _ _ => len + 1 - (intOf t).toNat)
      case atStart => exact ⟨at' + 3, Nat.le_refl _, s1, by omega, by go_num, by rw [Nat.sub_self]; rfl, rfl⟩
      case round =>
        obtain ⟨k, hk1, hk2, hk3, rfl, rfl, hw⟩ := hrel
        subst wr
        have hv6 := hexV_six (g := g) (i := at' + 3) (n := k - (at' + 3)) (by omega) (fun j hj => unhide HS3 _ (by omega) (by omega))
        obtain ⟨v, hv⟩ : ∃ v, hexV g (at' + 3) (k - (at' + 3)) = v := ⟨_, rfl⟩
        rw [hv] at hv6 ⊢
        by_cases hgo : k < e ∧ k < at' + 9 ∧ k < len
        · obtain ⟨hke, hk9, hkl⟩ := hgo
          have hkl' : (k : Int) < len := by omega
          have d1 : decide ((k : Int) < len) = true := decide_eq_true hkl'
          have d2 : decide ((k : Int) < (at' : Int) + 9) = true := decide_eq_true (by omega)
          have hck := unhide HCJ k hkl
          have hh := unhide HS3 k hk1 hke
          have hb := hexD_bd hh
          have d3 : decide (0 ≤ hexD (g k)) = true := hh
          have HN : Hid (hexV g (at' + 3) (k + 1 - (at' + 3)) = v * 16 + hexD (g k)) := by
            show _ = _
            rw [show k + 1 - (at' + 3) = (k - (at' + 3)) + 1 from by omega, hexV, hv, show at' + 3 + (k - (at' + 3)) = k from by omega]
          have HG := hide hg
          clear hv hh hg
          go_wp2_with (go_at_call 75; refine (rdigit_any _ (unhide HG _) _).mono ?_; rintro x w' ⟨rfl, hw⟩; subst w')
          exact ⟨⟨k + 1, by omega, by omega, by omega, by go_num, by rw [unhide HN], trivial⟩, by simp [intOf]; omega⟩
        · have hex : k = e ∨ k = at' + 9 ∨ len ≤ k := by omega
          have HG := hide hg
          by_cases d1c : k < len
          · have d1' : (k : Int) < len := by omega
            have d1 : decide ((k : Int) < len) = true := decide_eq_true d1'
            have hck0 := unhide HCJ k d1c
            by_cases d2c : k < at' + 9
            · have d2 : decide ((k : Int) < (at' : Int) + 9) = true := decide_eq_true (by omega)
              have hke0 : k = e := by omega
              have d3 : decide (0 ≤ hexD (g k)) = false := by
                rcases unhide HS4 with h | h
                · omega
                · rw [hke0]; exact h
              clear hke0
              by_cases p2 : at' + 2 < len
              · have p2' : (at' : Int) + 2 < len := by omega
                have p2d : decide ((len : Int) ≤ (at' : Int) + 2) = false := decide_eq_false (by omega)
                have hc2 : W.cell? ⟨c, off + (at' + 2), none⟩ = some (.int .u8 (g (at' + 2))) := unhide HCJ _ p2
                by_cases p3 : g (at' + 2) = 123
                · have p3d : (g (at' + 2) != 123) = false := by rw [p3]; rfl
                  by_cases p4 : k = at' + 3
                  · have p4d : ((k : Int) == (at' : Int) + 3) = true := beq_iff_eq.2 (by omega)
                    have hx0 : x = none := by rw [← unhide HX]; exact if_neg (fun h => by omega)
                    subst hx0
                    clear hv hg HX HS3 HS4 hex
                    try clear p6
                    try clear p3
                    try clear p4
                    go_wp2_with (go_at_call 75; refine (rdigit_any _ (unhide HG _) _).mono ?_; rintro x w' ⟨rfl, hw⟩; subst w')
                    go_ret3
                    exact ⟨rfl, rfl⟩
                  · have p4d : ((k : Int) == (at' : Int) + 3) = false := beq_eq_false_iff_ne.2 (by omega)
                    by_cases p5 : k < len
                    · have p5' : (k : Int) < len := by omega
                      have p5d : decide ((len : Int) ≤ (k : Int)) = false := decide_eq_false (by omega)
                      have hck := unhide HCJ k p5
                      by_cases p6 : g k = 125
                      · have p6d : (g k != 125) = false := by rw [p6]; rfl
                        have hke : k = e := by
                          rcases Nat.lt_or_ge k e with h | h
                          · have h2 := unhide HS3 k hk1 h
                            rw [p6] at h2
                            exact absurd h2 (by decide)
                          · omega
                        subst hke
                        by_cases p7 : v ≤ 1114111
                        · have p7d : decide (1114111 < v) = false := decide_eq_false (by omega)
                          by_cases p8 : 55296 ≤ v
                          · have p8d : decide (55296 ≤ v) = true := decide_eq_true p8
                            by_cases p9 : v ≤ 57343
                            · have p9d : decide (v ≤ 57343) = true := decide_eq_true p9
                              have hal : alw v = false := by simp [alw]; omega
                              have hx0 : x = none := by rw [← unhide HX]; exact if_neg (fun h => by have h8 := h.2.2.2.2.2.2.2; rw [hv, hal] at h8; cases h8)
                              subst hx0
                              clear hv hg HX HS3 HS4 hex
                              try clear p6
                              try clear p3
                              try clear p4
                              go_wp2_with (go_at_call 75; refine (rdigit_any _ (unhide HG _) _).mono ?_; rintro x w' ⟨rfl, hw⟩; subst w')
                              go_ret3
                              exact ⟨rfl, rfl⟩
                            · have p9d : decide (v ≤ 57343) = false := decide_eq_false p9
                              have hal : alw v = true := by simp [alw]; omega
                              have hx1 : x = some (v, k + 1 - at') := by rw [← unhide HX, ← hv]; exact if_pos ⟨p2, h117, p3, p5, p6, by omega, hk3, by rw [hv]; exact hal⟩
                              subst hx1
                              have HN1 : Hid (escN at' (some (v, k + 1 - at')) = (k : Int) + 1) := by show (at' : Int) + ((k + 1 - at' : Nat) : Int) = _; omega
                              clear hv hg HX HS3 HS4 hex p6 p3
                              go_wp2_with (go_at_call 75; refine (rdigit_any _ (unhide HG _) _).mono ?_; rintro x w' ⟨rfl, hw⟩; subst w')
                              go_ret3
                              have hend : Ending.returned (.tuple #[.string (Utf8.encode v), .int .i64 ((k : Int) + 1), .bool true]) = .returned (.tuple #[.string (escS (some (v, k + 1 - at'))), .int .i64 (escN at' (some (v, k + 1 - at'))), .bool (escB (some (v, k + 1 - at')))]) := by rw [enc_eq, unhide HN1]; rfl
                              exact ⟨hend, rfl⟩
                          · have p8d : decide (55296 ≤ v) = false := decide_eq_false p8
                            have hal : alw v = true := by simp [alw]; omega
                            have hx1 : x = some (v, k + 1 - at') := by rw [← unhide HX, ← hv]; exact if_pos ⟨p2, h117, p3, p5, p6, by omega, hk3, by rw [hv]; exact hal⟩
                            subst hx1
                            have HN1 : Hid (escN at' (some (v, k + 1 - at')) = (k : Int) + 1) := by show (at' : Int) + ((k + 1 - at' : Nat) : Int) = _; omega
                            clear hv hg HX HS3 HS4 hex p6 p3
                            go_wp2_with (go_at_call 75; refine (rdigit_any _ (unhide HG _) _).mono ?_; rintro x w' ⟨rfl, hw⟩; subst w')
                            go_ret3
                            have hend : Ending.returned (.tuple #[.string (Utf8.encode v), .int .i64 ((k : Int) + 1), .bool true]) = .returned (.tuple #[.string (escS (some (v, k + 1 - at'))), .int .i64 (escN at' (some (v, k + 1 - at'))), .bool (escB (some (v, k + 1 - at')))]) := by rw [enc_eq, unhide HN1]; rfl
                            exact ⟨hend, rfl⟩
                        · have p7d : decide (1114111 < v) = true := decide_eq_true (by omega)
                          have hal : alw v = false := by simp [alw]; omega
                          have hx0 : x = none := by rw [← unhide HX]; exact if_neg (fun h => by have h8 := h.2.2.2.2.2.2.2; rw [hv, hal] at h8; cases h8)
                          subst hx0
                          clear hv hg HX HS3 HS4 hex
                          try clear p6
                          try clear p3
                          try clear p4
                          go_wp2_with (go_at_call 75; refine (rdigit_any _ (unhide HG _) _).mono ?_; rintro x w' ⟨rfl, hw⟩; subst w')
                          go_ret3
                          exact ⟨rfl, rfl⟩
                      · have p6d : (g k != 125) = true := bne_iff_ne.2 p6
                        have hx0 : x = none := by rw [← unhide HX]; exact if_neg (fun h => by have h7 := h.2.2.2.2.2.2.1; have h3 := h.2.2.2.1; have h5 := h.2.2.2.2.1; have hke : k = e := (by omega); rw [hke] at p6; exact p6 h5)
                        subst hx0
                        clear hv hg HX HS3 HS4 hex
                        try clear p6
                        try clear p3
                        try clear p4
                        go_wp2_with (go_at_call 75; refine (rdigit_any _ (unhide HG _) _).mono ?_; rintro x w' ⟨rfl, hw⟩; subst w')
                        go_ret3
                        exact ⟨rfl, rfl⟩
                    · have p5' : ¬ (k : Int) < len := by omega
                      have p5d : decide ((len : Int) ≤ (k : Int)) = true := decide_eq_true (by omega)
                      exfalso; omega
                · have p3d : (g (at' + 2) != 123) = true := bne_iff_ne.2 p3
                  have hx0 : x = none := by rw [← unhide HX]; exact if_neg (fun h => p3 h.2.2.1)
                  subst hx0
                  clear hv hg HX HS3 HS4 hex
                  try clear p6
                  try clear p3
                  try clear p4
                  go_wp2_with (go_at_call 75; refine (rdigit_any _ (unhide HG _) _).mono ?_; rintro x w' ⟨rfl, hw⟩; subst w')
                  go_ret3
                  exact ⟨rfl, rfl⟩
              · have p2' : ¬ (at' : Int) + 2 < len := by omega
                have p2d : decide ((len : Int) ≤ (at' : Int) + 2) = true := decide_eq_true (by omega)
                exfalso; omega
            · have d2 : decide ((k : Int) < (at' : Int) + 9) = false := decide_eq_false (by omega)
              by_cases p2 : at' + 2 < len
              · have p2' : (at' : Int) + 2 < len := by omega
                have p2d : decide ((len : Int) ≤ (at' : Int) + 2) = false := decide_eq_false (by omega)
                have hc2 : W.cell? ⟨c, off + (at' + 2), none⟩ = some (.int .u8 (g (at' + 2))) := unhide HCJ _ p2
                by_cases p3 : g (at' + 2) = 123
                · have p3d : (g (at' + 2) != 123) = false := by rw [p3]; rfl
                  by_cases p4 : k = at' + 3
                  · have p4d : ((k : Int) == (at' : Int) + 3) = true := beq_iff_eq.2 (by omega)
                    exfalso; omega
                  · have p4d : ((k : Int) == (at' : Int) + 3) = false := beq_eq_false_iff_ne.2 (by omega)
                    by_cases p5 : k < len
                    · have p5' : (k : Int) < len := by omega
                      have p5d : decide ((len : Int) ≤ (k : Int)) = false := decide_eq_false (by omega)
                      have hck := unhide HCJ k p5
                      by_cases p6 : g k = 125
                      · have p6d : (g k != 125) = false := by rw [p6]; rfl
                        have hke : k = e := by
                          rcases Nat.lt_or_ge k e with h | h
                          · have h2 := unhide HS3 k hk1 h
                            rw [p6] at h2
                            exact absurd h2 (by decide)
                          · omega
                        subst hke
                        by_cases p7 : v ≤ 1114111
                        · have p7d : decide (1114111 < v) = false := decide_eq_false (by omega)
                          by_cases p8 : 55296 ≤ v
                          · have p8d : decide (55296 ≤ v) = true := decide_eq_true p8
                            by_cases p9 : v ≤ 57343
                            · have p9d : decide (v ≤ 57343) = true := decide_eq_true p9
                              have hal : alw v = false := by simp [alw]; omega
                              have hx0 : x = none := by rw [← unhide HX]; exact if_neg (fun h => by have h8 := h.2.2.2.2.2.2.2; rw [hv, hal] at h8; cases h8)
                              subst hx0
                              clear hv hg HX HS3 HS4 hex
                              try clear p6
                              try clear p3
                              try clear p4
                              go_wp2_with (go_at_call 75; refine (rdigit_any _ (unhide HG _) _).mono ?_; rintro x w' ⟨rfl, hw⟩; subst w')
                              go_ret3
                              exact ⟨rfl, rfl⟩
                            · have p9d : decide (v ≤ 57343) = false := decide_eq_false p9
                              have hal : alw v = true := by simp [alw]; omega
                              have hx1 : x = some (v, k + 1 - at') := by rw [← unhide HX, ← hv]; exact if_pos ⟨p2, h117, p3, p5, p6, by omega, hk3, by rw [hv]; exact hal⟩
                              subst hx1
                              have HN1 : Hid (escN at' (some (v, k + 1 - at')) = (k : Int) + 1) := by show (at' : Int) + ((k + 1 - at' : Nat) : Int) = _; omega
                              clear hv hg HX HS3 HS4 hex p6 p3
                              go_wp2_with (go_at_call 75; refine (rdigit_any _ (unhide HG _) _).mono ?_; rintro x w' ⟨rfl, hw⟩; subst w')
                              go_ret3
                              have hend : Ending.returned (.tuple #[.string (Utf8.encode v), .int .i64 ((k : Int) + 1), .bool true]) = .returned (.tuple #[.string (escS (some (v, k + 1 - at'))), .int .i64 (escN at' (some (v, k + 1 - at'))), .bool (escB (some (v, k + 1 - at')))]) := by rw [enc_eq, unhide HN1]; rfl
                              exact ⟨hend, rfl⟩
                          · have p8d : decide (55296 ≤ v) = false := decide_eq_false p8
                            have hal : alw v = true := by simp [alw]; omega
                            have hx1 : x = some (v, k + 1 - at') := by rw [← unhide HX, ← hv]; exact if_pos ⟨p2, h117, p3, p5, p6, by omega, hk3, by rw [hv]; exact hal⟩
                            subst hx1
                            have HN1 : Hid (escN at' (some (v, k + 1 - at')) = (k : Int) + 1) := by show (at' : Int) + ((k + 1 - at' : Nat) : Int) = _; omega
                            clear hv hg HX HS3 HS4 hex p6 p3
                            go_wp2_with (go_at_call 75; refine (rdigit_any _ (unhide HG _) _).mono ?_; rintro x w' ⟨rfl, hw⟩; subst w')
                            go_ret3
                            have hend : Ending.returned (.tuple #[.string (Utf8.encode v), .int .i64 ((k : Int) + 1), .bool true]) = .returned (.tuple #[.string (escS (some (v, k + 1 - at'))), .int .i64 (escN at' (some (v, k + 1 - at'))), .bool (escB (some (v, k + 1 - at')))]) := by rw [enc_eq, unhide HN1]; rfl
                            exact ⟨hend, rfl⟩
                        · have p7d : decide (1114111 < v) = true := decide_eq_true (by omega)
                          have hal : alw v = false := by simp [alw]; omega
                          have hx0 : x = none := by rw [← unhide HX]; exact if_neg (fun h => by have h8 := h.2.2.2.2.2.2.2; rw [hv, hal] at h8; cases h8)
                          subst hx0
                          clear hv hg HX HS3 HS4 hex
                          try clear p6
                          try clear p3
                          try clear p4
                          go_wp2_with (go_at_call 75; refine (rdigit_any _ (unhide HG _) _).mono ?_; rintro x w' ⟨rfl, hw⟩; subst w')
                          go_ret3
                          exact ⟨rfl, rfl⟩
                      · have p6d : (g k != 125) = true := bne_iff_ne.2 p6
                        have hx0 : x = none := by rw [← unhide HX]; exact if_neg (fun h => by have h7 := h.2.2.2.2.2.2.1; have h3 := h.2.2.2.1; have h5 := h.2.2.2.2.1; have hke : k = e := (by omega); rw [hke] at p6; exact p6 h5)
                        subst hx0
                        clear hv hg HX HS3 HS4 hex
                        try clear p6
                        try clear p3
                        try clear p4
                        go_wp2_with (go_at_call 75; refine (rdigit_any _ (unhide HG _) _).mono ?_; rintro x w' ⟨rfl, hw⟩; subst w')
                        go_ret3
                        exact ⟨rfl, rfl⟩
                    · have p5' : ¬ (k : Int) < len := by omega
                      have p5d : decide ((len : Int) ≤ (k : Int)) = true := decide_eq_true (by omega)
                      exfalso; omega
                · have p3d : (g (at' + 2) != 123) = true := bne_iff_ne.2 p3
                  have hx0 : x = none := by rw [← unhide HX]; exact if_neg (fun h => p3 h.2.2.1)
                  subst hx0
                  clear hv hg HX HS3 HS4 hex
                  try clear p6
                  try clear p3
                  try clear p4
                  go_wp2_with (go_at_call 75; refine (rdigit_any _ (unhide HG _) _).mono ?_; rintro x w' ⟨rfl, hw⟩; subst w')
                  go_ret3
                  exact ⟨rfl, rfl⟩
              · have p2' : ¬ (at' : Int) + 2 < len := by omega
                have p2d : decide ((len : Int) ≤ (at' : Int) + 2) = true := decide_eq_true (by omega)
                exfalso; omega
          · have d1' : ¬ (k : Int) < len := by omega
            have d1 : decide ((k : Int) < len) = false := decide_eq_false d1'
            by_cases p2 : at' + 2 < len
            · have p2' : (at' : Int) + 2 < len := by omega
              have p2d : decide ((len : Int) ≤ (at' : Int) + 2) = false := decide_eq_false (by omega)
              have hc2 : W.cell? ⟨c, off + (at' + 2), none⟩ = some (.int .u8 (g (at' + 2))) := unhide HCJ _ p2
              by_cases p3 : g (at' + 2) = 123
              · have p3d : (g (at' + 2) != 123) = false := by rw [p3]; rfl
                by_cases p4 : k = at' + 3
                · have p4d : ((k : Int) == (at' : Int) + 3) = true := beq_iff_eq.2 (by omega)
                  have hx0 : x = none := by rw [← unhide HX]; exact if_neg (fun h => by omega)
                  subst hx0
                  clear hv hg HX HS3 HS4 hex
                  try clear p6
                  try clear p3
                  try clear p4
                  go_wp2_with (go_at_call 75; refine (rdigit_any _ (unhide HG _) _).mono ?_; rintro x w' ⟨rfl, hw⟩; subst w')
                  go_ret3
                  exact ⟨rfl, rfl⟩
                · have p4d : ((k : Int) == (at' : Int) + 3) = false := beq_eq_false_iff_ne.2 (by omega)
                  by_cases p5 : k < len
                  · exfalso; omega
                  · have p5' : ¬ (k : Int) < len := by omega
                    have p5d : decide ((len : Int) ≤ (k : Int)) = true := decide_eq_true (by omega)
                    have hx0 : x = none := by rw [← unhide HX]; exact if_neg (fun h => by have h3 := h.2.2.2.1; omega)
                    subst hx0
                    clear hv hg HX HS3 HS4 hex
                    try clear p6
                    try clear p3
                    try clear p4
                    go_wp2_with (go_at_call 75; refine (rdigit_any _ (unhide HG _) _).mono ?_; rintro x w' ⟨rfl, hw⟩; subst w')
                    go_ret3
                    exact ⟨rfl, rfl⟩
              · have p3d : (g (at' + 2) != 123) = true := bne_iff_ne.2 p3
                have hx0 : x = none := by rw [← unhide HX]; exact if_neg (fun h => p3 h.2.2.1)
                subst hx0
                clear hv hg HX HS3 HS4 hex
                try clear p6
                try clear p3
                try clear p4
                go_wp2_with (go_at_call 75; refine (rdigit_any _ (unhide HG _) _).mono ?_; rintro x w' ⟨rfl, hw⟩; subst w')
                go_ret3
                exact ⟨rfl, rfl⟩
            · have p2' : ¬ (at' : Int) + 2 < len := by omega
              have p2d : decide ((len : Int) ≤ (at' : Int) + 2) = true := decide_eq_true (by omega)
              have hx0 : x = none := by rw [← unhide HX]; exact if_neg (fun h => p2 h.1)
              subst hx0
              clear hv hg HX HS3 HS4 hex
              try clear p6
              try clear p3
              try clear p4
              go_wp2_with (go_at_call 75; refine (rdigit_any _ (unhide HG _) _).mono ?_; rintro x w' ⟨rfl, hw⟩; subst w')
              go_ret3
              exact ⟨rfl, rfl⟩
    · have b117 : (g (at' + 1) == 117) = false := beq_eq_false_iff_ne.2 h117
      rw [numE, if_neg (fun h => h117 h.2.1)] at hx
      subst hx
      clear hcs hS
      go_enter Tryd.func62, Tryd.ntmps62
      go_wp2
      go_ret3
      exact ⟨rfl, rfl⟩
  · have h1' : ¬ (at' : Int) + 1 < len := by omega
    have h1g : (len : Int) ≤ (at' : Int) + 1 := by omega
    rw [if_pos h1] at hx
    subst hx
    clear hcs hS
    go_enter Tryd.func62, Tryd.ntmps62
    go_wp2
    go_ret3
    exact ⟨rfl, rfl⟩
end Go.Proofs.YtpdkeggiokebmaaDoor

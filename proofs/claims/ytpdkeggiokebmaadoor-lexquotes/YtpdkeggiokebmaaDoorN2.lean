/- The reference's ahead. -/
import Derived.LoopN
import Derived.WalkMore
import Derived.Test.YtpdkeggiokebmaaDoorX2
import Derived.Test.YtpdkeggiokebmaaDoorZP1
namespace Go.Proofs.YtpdkeggiokebmaaDoor
set_option linter.unusedSimpArgs false
set_option linter.unusedVariables false
open Go.RowKit Go.Shelf

/-- The cells of a row of bytes. -/
theorem sl_cells {W : World} {c : Nat} {a : Option Addr} {len cap : Nat} {g : Nat → Int} (hS : Sl W c (.slice a len cap) len g) : Hid (0 < len → ∃ off, a = some ⟨c, off, none⟩ ∧ len ≤ cap ∧ cap ≤ maxLen ∧ ∀ j, j < len → W.cell? ⟨c, off + j, none⟩ = some (.int .u8 (g j))) := by
  intro h
  rcases hS with ⟨_, _, h1, h0⟩ | ⟨off, cap', hv, h0, h1, h2, h3⟩
  · omega
  · cases hv
    exact ⟨off, rfl, h1, h2, h3⟩

theorem blk_yes {c : Int} (hb : blk c = true) : (c == 9) = true ∨ ((c == 9) = false ∧ (c == 10) = true) ∨ ((c == 9) = false ∧ (c == 10) = false ∧ (c == 13) = true) ∨ ((c == 9) = false ∧ (c == 10) = false ∧ (c == 13) = false ∧ (c == 32) = true) := by
  unfold blk at hb
  revert hb
  cases c == 9 <;> cases c == 10 <;> cases c == 13 <;> cases c == 32 <;> simp
theorem blk_no {c : Int} (hb : blk c = false) : (c == 9) = false ∧ (c == 10) = false ∧ (c == 13) = false ∧ (c == 32) = false := by
  unfold blk at hb
  revert hb
  cases c == 9 <;> cases c == 10 <;> cases c == 13 <;> cases c == 32 <;> simp

set_option maxRecDepth 100000 in
set_option maxHeartbeats 4000000 in
theorem rahead_any (c : Nat) (a : Option Addr) (len cap : Nat) (g : Nat → Int) (at' : Nat) (W : World) (hS : Sl W c (.slice a len cap) len g) (hat : at' ≤ len) (hlen : len ≤ 1099511627776) :
    Calls Tryd.prog 31 #[.slice a len cap, .int .i64 (at' : Int)] W fun x W' => x = .returned (.tuple #[.int .i64 ((ahd g len at').1 : Int), .bool (ahd g len at').2]) ∧ W' = W := by
  have HCS := sl_cells hS
  obtain ⟨r, hr⟩ : ∃ r, ahd g len at' = r := ⟨_, rfl⟩
  rw [hr]
  obtain ⟨r1, r2⟩ := r
  have HR := hide hr
  clear hS hr
  go_enter Tryd.func31, Tryd.ntmps31
  go_wp2
  go_loopw [1] (fun t wr => ∃ k : Nat, k ≤ len ∧ t = .int .i64 (k : Int) ∧ ahd g len k = (r1, r2) ∧ wr = W) (fun t _ => len - (intOf t).toNat)
  case atStart => exact ⟨at', hat, rfl, unhide HR, rfl⟩
  case round =>
    obtain ⟨k, hk, rfl, hak, hw⟩ := hrel
    subst wr
    by_cases hlt : k < len
    · have hlt' : (k : Int) < len := by omega
      obtain ⟨off, rfl, hcp, hmx, hcs⟩ := unhide HCS (by omega)
      unfold maxLen at hmx
      have hck := hcs k hlt
      have hcb := World.block_lt_of_cell? W _ hck
      by_cases hb : blk (g k) = true
      · rw [ahd_blk hlt hb] at hak
        have hcase := blk_yes hb
        have HAK := hide hak
        clear hcs hb hak
        rcases hcase with e1 | ⟨e1, e2⟩ | ⟨e1, e2, e3⟩ | ⟨e1, e2, e3, e4⟩
        all_goals (
          go_wp2
          exact ⟨⟨k + 1, by omega, by go_num, unhide HAK, trivial⟩, by simp [intOf]; omega⟩)
      · have hb0 : blk (g k) = false := by simpa using hb
        obtain ⟨e1, e2, e3, e4⟩ := blk_no hb0
        by_cases h47 : g k = 47
        · have f1 : (g k == 47) = true := by rw [h47]; rfl
          by_cases hk1 : k + 1 < len
          · have hk1' : (k : Int) + 1 < len := by omega
            have hd1 : decide ((k : Int) + 1 < len) = true := decide_eq_true hk1'
            have hck1 : W.cell? ⟨c, off + (k + 1), none⟩ = some (.int .u8 (g (k + 1))) := hcs (k + 1) hk1
            by_cases hl : g (k + 1) = 47
            · have f2 : (g (k + 1) == 47) = true := by rw [hl]; rfl
              rw [ahd_line hk1 h47 hl] at hak
              have hp : (g k != 10) = true := by rw [h47]; decide
              have s1 := stopI_step (p := fun c => c != 10) (g := g) hlt hp
              have s2 := stopI_spec (p := fun c => c != 10) (g := g) (len := len) (i := k + 1) (by omega)
              rw [← s1] at s2
              obtain ⟨e, he⟩ : ∃ e, stopI (fun c => c != 10) g len k = e := ⟨_, rfl⟩
              rw [he] at s2 hak
              obtain ⟨s3, s4, s5, s6⟩ := s2
              have HS5 := hide s5
              have HS6 := hide s6
              have HAK := hide hak
              have HCJ := hide hcs
              clear hcs hb hb0 hak s5 s6 he s1 hp
              go_wp2
              go_loopw [1] (fun t wr => ∃ j : Nat, k ≤ j ∧ j ≤ e ∧ t = .int .i64 (j : Int) ∧ wr = W) (fun t _ => len - (intOf t).toNat)
              case atStart => exact ⟨k, Nat.le_refl _, by omega, rfl, rfl⟩
              case round =>
                obtain ⟨j, hj1, hj2, rfl, hw⟩ := hrel
                subst wr
                by_cases hjl : j < len
                · have hjl' : (j : Int) < len := by omega
                  have hjd : decide ((j : Int) < len) = true := decide_eq_true hjl'
                  have hcj := unhide HCJ j hjl
                  by_cases hje : j < e
                  · have hg : (g j != 10) = true := by
                      by_cases h : j = k
                      · rw [h, h47]; decide
                      · exact unhide HS5 j (by omega) hje
                    go_wp2
                    exact ⟨⟨j + 1, by omega, by omega, by go_num, trivial⟩, by simp [intOf]; omega⟩
                  · obtain rfl : j = e := by omega
                    have hg : (g j != 10) = false := by
                      rcases unhide HS6 with h | h
                      · omega
                      · exact h
                    go_wp2
                    exact ⟨⟨j, by omega, by go_num, unhide HAK, trivial⟩, by simp [intOf]; omega⟩
                · have hjl' : ¬ (j : Int) < len := by omega
                  have hjd : decide ((j : Int) < len) = false := decide_eq_false hjl'
                  obtain rfl : j = e := by omega
                  go_wp2
                  exact ⟨⟨j, by omega, by go_num, unhide HAK, trivial⟩, by simp [intOf]; omega⟩
            · have f2 : (g (k + 1) == 47) = false := beq_eq_false_iff_ne.2 hl
              by_cases hs : g (k + 1) = 42
              · have f3 : (g (k + 1) == 42) = true := by rw [hs]; rfl
                rw [ahd_rem hk1 h47 hs] at hak
                obtain ⟨e, he⟩ : ∃ e, remI g len (k + 2) = e := ⟨_, rfl⟩
                rw [he] at hak
                have HE := hide he
                have HAK := hide hak
                have HCJ := hide hcs
                clear hcs hb hb0 hak he
                go_wp2
                go_loopw [7] (fun t wr => ∃ j : Nat, k + 2 ≤ j ∧ j ≤ len ∧ t = .int .i64 (j : Int) ∧ remI g len j = e ∧ wr = W) (fun t _ => len - (intOf t).toNat)
                case atStart => exact ⟨k + 2, Nat.le_refl _, by omega, by go_num, unhide HE, rfl⟩
                case round =>
                  obtain ⟨j, hj1, hj2, rfl, hrj, hw⟩ := hrel
                  subst wr
                  by_cases hjl : j + 1 < len
                  · have hjl' : (j : Int) + 1 < len := by omega
                    have hjl0 : (j : Int) < len := by omega
                    have hjd : decide ((j : Int) + 1 < len) = true := decide_eq_true hjl'
                    have hcj := unhide HCJ j (by omega)
                    have hcj1 : W.cell? ⟨c, off + (j + 1), none⟩ = some (.int .u8 (g (j + 1))) := unhide HCJ (j + 1) hjl
                    by_cases hm : g j = 42 ∧ g (j + 1) = 47
                    · have m1 : (g j != 42) = false := by rw [hm.1]; rfl
                      have m2 : (g (j + 1) != 47) = false := by rw [hm.2]; rfl
                      rw [remI_stop (fun h => h.2 hm)] at hrj
                      subst hrj
                      have hak := unhide HAK
                      rw [if_pos hjl] at hak
                      have HAK2 := hide hak
                      clear hak HAK HE hm
                      go_wp2
                      exact ⟨⟨j + 2, by omega, by go_num, unhide HAK2, trivial⟩, by simp [intOf]; omega⟩
                    · rw [remI_step hjl hm] at hrj
                      have HRJ := hide hrj
                      by_cases h42 : g j = 42
                      · have m1 : (g j != 42) = false := by rw [h42]; rfl
                        have m2 : (g (j + 1) != 47) = true := bne_iff_ne.2 (fun h => hm ⟨h42, h⟩)
                        clear hrj hm
                        go_wp2
                        exact ⟨⟨j + 1, by omega, by omega, by go_num, unhide HRJ, trivial⟩, by simp [intOf]; omega⟩
                      · have m1 : (g j != 42) = true := bne_iff_ne.2 h42
                        clear hrj hm
                        go_wp2
                        exact ⟨⟨j + 1, by omega, by omega, by go_num, unhide HRJ, trivial⟩, by simp [intOf]; omega⟩
                  · have hjl' : ¬ (j : Int) + 1 < len := by omega
                    have hjd : decide ((j : Int) + 1 < len) = false := decide_eq_false hjl'
                    have hjg : (len : Int) ≤ (j : Int) + 1 := by omega
                    rw [remI_stop (fun h => hjl h.1)] at hrj
                    subst hrj
                    have hak := unhide HAK
                    rw [if_neg hjl] at hak
                    injection hak with h1 h2
                    subst h1 h2
                    clear HAK HE
                    go_wp2
                    go_ret2
                    exact ⟨rfl, rfl⟩
              · have f3 : (g (k + 1) == 42) = false := beq_eq_false_iff_ne.2 hs
                rw [ahd_tok hlt hb0 (fun h => hl h.2.2) (fun h => hs h.2.2)] at hak
                injection hak with h1 h2
                subst h1 h2
                clear hcs hb hb0
                go_wp2
                go_ret2
                exact ⟨rfl, rfl⟩
          · have hk1' : ¬ (k : Int) + 1 < len := by omega
            have hd1 : decide ((k : Int) + 1 < len) = false := decide_eq_false hk1'
            rw [ahd_tok hlt hb0 (fun h => hk1 h.2.1) (fun h => hk1 h.2.1)] at hak
            injection hak with h1 h2
            subst h1 h2
            clear hcs hb hb0
            go_wp2
            go_ret2
            exact ⟨rfl, rfl⟩
        · have f1 : (g k == 47) = false := beq_eq_false_iff_ne.2 h47
          rw [ahd_tok hlt hb0 (fun h => h47 h.1) (fun h => h47 h.1)] at hak
          injection hak with h1 h2
          subst h1 h2
          clear hcs hb hb0
          go_wp2
          go_ret2
          exact ⟨rfl, rfl⟩
    · have hlt' : ¬ (k : Int) < len := by omega
      rw [ahd_end hlt] at hak
      injection hak with h1 h2
      subst h1 h2
      go_wp2
      go_ret2
      exact ⟨rfl, rfl⟩
end Go.Proofs.YtpdkeggiokebmaaDoor

/- Small functions on the way to a union. -/
import Derived.Test.YticdaphajanbbaaGreatDoorKV
namespace Go.Proofs.YticdaphajanbbaaGreatDoor
set_option linter.unusedSimpArgs false
set_option linter.unusedVariables false
set_option maxRecDepth 100000
set_option maxHeartbeats 4000000
open Go.RowKit Go.Shelf

variable {P : Program} {lo M : Nat} {mo : Option Nat} {dv : Value} {L : List Kt} {W : World}
theorem collect_flat (w : World) (b1 b2 : Nat) (ids : List Int) (pa : Option Addr) (pc : Nat) (hA : AAt Tryz.prog lo M mo dv L w) (hp : RowR 3 w (.slice pa ids.length pc) (iv ids)) (hf : Flat L ids) (hl : ids.length ≤ 1000000000) (hol : (onceP ids).length ≤ 1000000000) (hb1 : Bx w b1 #[.pointer (some ⟨M, 0, none⟩)] 28) (hb2 : Bx w b2 #[.slice pa ids.length pc] 32) :
    Calls Tryz.prog 75 #[.func (.func 100) #[] #[.pointer (some ⟨b1, 0, none⟩), .pointer (some ⟨b2, 0, none⟩)]] w (CloneQ 3 (iv (onceP ids)) w) := by
  have HC := hide (callsIn_wide.1 (appendSeq_flat w b1 b2 ids pa pc hA hp hf hl hol hb1 hb2))
  clear hA hp hf hl hol hb1 hb2
  go_enter Tryz.func75, Tryz.ntmps75
  go_wp2_with (first
    | (go_at_call 102
       refine (unhide HC).mono ?_
       rintro e w2 ⟨v2, rfl, ho2, hb2⟩
       have HO := hide ho2
       obtain ⟨va, vc, rfl, -⟩ := own_rowR ho2
       clear ho2))
  go_ret
  exact ⟨_, rfl, unhide HO, hb2⟩
def wz : Array Value := #[.int .i64 0, .int .i64 0, .string ⟨#[]⟩, .slice none 0 0, .slice none 0 0, .slice none 0 0]
/-- A type that none is wider than. -/
theorem wider_none (h : AAt Tryz.prog lo M mo dv L W) (p : Int) (hp : IsX L p) (h11 : kindP L p ≠ 11) (h12 : kindP L p ≠ 12) (h20 : kindP L p ≠ 20) : Calls Tryz.prog 78 #[.pointer (some ⟨M, 0, none⟩), .int .i64 p] W fun e w' => e = .returned (.tuple #[.agg wz, .bool false]) ∧ Below W.heap.size W w' := by
  have hb1 := (Below.refl _ W).alloc (Nat.le_refl _) (.cells wz 36)
  have HK := hide (kind_any (h.below hb1) p hp)
  obtain ⟨z, hz⟩ : ∃ z, kindP L p = z := ⟨_, rfl⟩
  rw [hz] at h11 h12 h20 HK
  have n11 : (z == 11) = false := by simpa using h11
  have n12 : (z == 12) = false := by simpa using h12
  have n20 : (z == 20) = false := by simpa using h20
  have HB1 := hide hb1
  clear h hp h11 h12 h20 hz hb1
  unfold wz at HK HB1
  go_enter Tryz.func78, Tryz.ntmps78
  go_wp2_with (first
    | (go_at_call 74
       refine (unhide HK).mono ?_
       rintro e w2 ⟨rfl, rfl⟩))
  refine bodyPost_ret (results_cell2 rfl _ _ W.heap.size 36 wz (0, 0) _ rfl (al_at W _) Tryz.underlying36 rfl rfl) rfl ?_
  exact ⟨rfl, unhide HB1⟩
theorem told_ok (id : Int) (h : id ≠ -1) (W : World) : Calls Tryz.prog 31 #[.int .i64 id] W fun e w' => e = .returned (.tuple #[.int .i64 id, .int .i64 0]) ∧ w' = W := by
  have hn : (id == -1) = false := by simpa using h
  go_enter Tryz.func31, Tryz.ntmps31
  go_wp2
  refine bodyPost_ret (v := .tuple #[.int .i64 id, .int .i64 0]) ?_ rfl ⟨rfl, rfl⟩
  simp [results, Tryz.results31, go_sem]
theorem has_yes (w : World) (M : Nat) (a : Option Addr) (n c : Nat) (h : w.cell? ⟨M, 0, none⟩ = some (.slice a n c)) (id : Int) (hn : 0 ≤ id ∧ id < (n : Int)) : Calls Tryz.prog 44 #[.pointer (some ⟨M, 0, none⟩), .int .i64 id] w fun e w' => e = .returned (.bool true) ∧ w' = w := (has_any w M a n c h id).mono fun e w' ⟨h1, h2⟩ => ⟨by rw [h1, decide_eq_true hn], h2⟩
theorem hasAll_yes (h : AAt Tryz.prog lo M mo dv L W) (pa : Option Addr) (pc : Nat) (ps : List Int) (hp : RowR 3 W (.slice pa ps.length pc) (iv ps)) (hv : ∀ p ∈ ps, Is L p) (hl : ps.length ≤ 1000000000) :
    Calls Tryz.prog 30 #[.pointer (some ⟨M, 0, none⟩), .slice pa ps.length pc] W fun e w' => e = .returned (.bool true) ∧ w' = W := by
  obtain ⟨ta, tc, m0, -⟩ := h.cells
  have hM := h.lt
  have HM0 := hide m0
  have HP := hide hp
  have HV := hide hv
  clear h hp hv m0
  go_enter Tryz.func30, Tryz.ntmps30
  go_wp2
  go_loop [9] (fun u => ∃ i : Nat, i ≤ ps.length ∧ u = .int .i64 (i : Int)) (fun u => ps.length - (intOf u).toNat)
  case atStart => exact ⟨0, Nat.zero_le _, rfl⟩
  case round =>
    obtain ⟨i, hi, rfl⟩ := hrel
    by_cases hil : i < ps.length
    · obtain ⟨p, hpi⟩ : ∃ p, ps[i]? = some p := ⟨_, List.getElem?_eq_getElem hil⟩
      have HP' := unhide HP
      rw [← iv_len] at HP'
      obtain ⟨b, o, rfl, cp, hbl⟩ := HP'.int hpi
      have HI := hide (unhide HV p (List.mem_of_getElem? hpi))
      clear HP' hpi
      go_wp2_with (first
        | (go_at_call 44
           refine (has_yes W M ta L.length tc (unhide HM0) p (unhide HI)).mono ?_
           rintro e w2 ⟨rfl, rfl⟩))
      go_round
      case rel => exact ⟨i + 1, by omega, by go_num⟩
      case measure => simp [intOf]; omega
    · have hie : i = ps.length := by omega
      subst hie
      go_wp2
      go_ret
      exact ⟨rfl, rfl⟩
/-- What left does away with: where no type is wider. -/
theorem left1_flat (cA cT : Nat) (h : AAt Tryz.prog lo M mo dv L W) (hx : Bx W cA #[.pointer (some ⟨M, 0, none⟩)] 28) (p : Int) (hp : IsX L p) (h11 : kindP L p ≠ 11) (h12 : kindP L p ≠ 12) (h20 : kindP L p ≠ 20) : Calls Tryz.prog 77 #[.int .i64 p, .pointer (some ⟨cA, 0, none⟩), .pointer (some ⟨cT, 0, none⟩)] W fun e w' => e = .returned (.bool (kindP L p == 3)) ∧ Below W.heap.size W w' := by
  have HK := hide (kind_any h p hp)
  have HW := hide (wider_none h p hp h11 h12 h20)
  obtain ⟨z, hz⟩ : ∃ z, kindP L p = z := ⟨_, rfl⟩
  rw [hz] at HK ⊢
  have c0 := hx.cell 0 rfl
  have hl := hx.lt
  clear h hp h11 h12 h20 hx hz
  unfold wz at HW
  cases h3 : (z == 3) with
  | true =>
    go_enter Tryz.func77, Tryz.ntmps77
    go_wp2_with (first
      | (go_at_call 74
         refine (unhide HK).mono ?_
         rintro e w2 ⟨rfl, rfl⟩))
    go_ret
    exact ⟨rfl, Below.refl _ _⟩
  | false =>
    go_enter Tryz.func77, Tryz.ntmps77
    go_wp2_with (first
      | (go_at_call 74
         refine (unhide HK).mono ?_
         rintro e w2 ⟨rfl, rfl⟩)
      | (go_at_call 78
         refine (unhide HW).mono ?_
         rintro e w3 ⟨rfl, hb3⟩))
    go_ret
    exact ⟨rfl, hb3.alloc hb3.size _⟩
end Go.Proofs.YticdaphajanbbaaGreatDoor

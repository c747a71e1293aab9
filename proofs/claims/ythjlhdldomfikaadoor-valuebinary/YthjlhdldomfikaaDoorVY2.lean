/- value.compared: the order of two texts by their runes. -/
import Derived.LoopTactic
import Derived.Deep.LoopGhost
import Derived.WalkSpells
import Derived.Test.YthjlhdldomfikaaDoorVY1
import Derived.Test.YthjlhdldomfikaaDoorVG
namespace Go.Proofs.YthjlhdldomfikaaDoor
set_option linter.unusedSimpArgs false
set_option linter.unusedVariables false
set_option maxRecDepth 100000
set_option maxHeartbeats 1000000
open Go.RowKit Go.Shelf

theorem nan32 (a : Int) : Ret 86 #[.int .i32 a] (.bool false) := by
  intro W
  go_enter Tryd.func86, Tryd.ntmps86
  go_wp2
  go_ret
  exact ⟨rfl, Below.refl _ _⟩
theorem cmp32 (a c : Int) : Ret 80 #[.int .i32 a, .int .i32 c] (.int .i64 (cmpP a c)) := by
  intro W
  have HN := hide nan32
  unfold cmpP
  by_cases h1 : a < c
  · rw [if_pos h1]
    go_enter Tryd.func80, Tryd.ntmps80
    go_wp2_with (first | (go_at_call_of 86 a; refine (unhide HN _ _).mono ?_; rintro e w1 ⟨rfl, hb1⟩) | (go_at_call_of 86 c; refine (unhide HN _ _).mono ?_; rintro e w2 ⟨rfl, hb2⟩))
    go_ret
    exact ⟨rfl, hb1.trans (hb2.mono hb1.size)⟩
  · rw [if_neg h1]
    by_cases h2 : c < a
    · rw [if_pos h2]
      go_enter Tryd.func80, Tryd.ntmps80
      go_wp2_with (first | (go_at_call_of 86 a; refine (unhide HN _ _).mono ?_; rintro e w1 ⟨rfl, hb1⟩) | (go_at_call_of 86 c; refine (unhide HN _ _).mono ?_; rintro e w2 ⟨rfl, hb2⟩))
      go_ret
      exact ⟨rfl, hb1.trans (hb2.mono hb1.size)⟩
    · rw [if_neg h2]
      go_enter Tryd.func80, Tryd.ntmps80
      go_wp2_with (first | (go_at_call_of 86 a; refine (unhide HN _ _).mono ?_; rintro e w1 ⟨rfl, hb1⟩) | (go_at_call_of 86 c; refine (unhide HN _ _).mono ?_; rintro e w2 ⟨rfl, hb2⟩))
      go_ret
      exact ⟨rfl, hb1.trans (hb2.mono hb1.size)⟩
theorem isEmpty_f (s : ByteArray) (h : 0 < s.size) : s.toList.isEmpty = false := by
  rw [ByteArray.toList_eq]
  cases e : s.data.toList with
  | nil =>
    have h2 := congrArg List.length e
    rw [Array.length_toList, List.length_nil] at h2
    have e2 : s.data.size = s.size := rfl
    omega
  | cons _ _ => rfl
theorem isEmpty_t (s : ByteArray) (h : s.size = 0) : s.toList.isEmpty = true := by
  rw [ByteArray.toList_eq]
  cases e : s.data.toList with
  | nil => rfl
  | cons x l =>
    have h2 := congrArg List.length e
    rw [Array.length_toList, List.length_cons] at h2
    have e2 : s.data.size = s.size := rfl
    omega
theorem iter_lt {w : World} {b : Nat} {s : ByteArray} {p : Nat} (h : w.heap[b]? = some (.stringIter s p)) : b < w.heap.size := by
  rcases Nat.lt_or_ge b w.heap.size with h' | h'
  · exact h'
  · rw [Array.getElem?_eq_none h'] at h; cases h
theorem ext_ext (b bs : ByteArray) (j p : Nat) (h : bs = b.extract j b.size) (hj : j ≤ b.size) (hp : j + p ≤ b.size) : bs.extract p bs.size = b.extract (j + p) b.size := by
  have hs : bs.size = b.size - j := by rw [h]; simp
  rw [hs, h]
  apply ByteArray.ext
  rw [ByteArray.data_extract, ByteArray.data_extract, ByteArray.data_extract, Array.extract_extract]
  congr 1
  omega
theorem compared_any (a b : ByteArray) (ha : a.size ≤ 281474976710656) (hb : b.size ≤ 281474976710656) : Ret 68 #[.string a, .string b] (.int .i64 (cmpF a b (a.size + 1) 0 0)) := by
  intro W
  have HC := hide cmp32
  obtain ⟨R, hR⟩ : ∃ R, cmpF a b (a.size + 1) 0 0 = R := ⟨_, rfl⟩
  rw [hR]
  have HR := hide hR
  have HA := hide ha
  have HB := hide hb
  clear hR ha hb
  go_enter Tryd.func68, Tryd.ntmps68
  go_wp2
  go_step3
  go_wp2
  go_step3
  go_wp2
  go_loopg [1] (a.size) (fun g s1 wr => ∃ (i j : Nat) (bs : ByteArray), s1 = .string bs ∧ bs = b.extract j b.size ∧ j ≤ b.size ∧ a.size ≤ i + g ∧ cmpF a b (g + 1) i j = R ∧ wr.heap[W.heap.size]? = some (.stringIter a i) ∧ Below W.heap.size W wr)
  case atStart => exact ⟨0, 0, b, rfl, by simp, Nat.zero_le _, by omega, unhide HR, World.iter_heap W a 0, (Below.refl _ W).alloc (Nat.le_refl _) _⟩
  case round =>
    obtain ⟨i, j, bs, rfl, hbs, hj, hg, hc, hit, hbel⟩ := hrel
    have hsz : bs.size = b.size - j := by rw [hbs]; simp
    have HBL := hide hbel
    have HBS := hide hbs
    by_cases hi : i < a.size
    · obtain ⟨w1, hnx, hit1, hz1, hB1⟩ := next_at (P := Tryd.prog) wr W.heap.size a i hit hi
      obtain ⟨g, rfl⟩ : ∃ g, gk = g + 1 := ⟨gk - 1, by omega⟩
      obtain ⟨⟨x, wx⟩, hx⟩ : ∃ q, Utf8.decode a i = q := ⟨_, rfl⟩
      have hpx := dec_pos a i hi
      rw [hx] at hnx hit1 hpx
      dsimp only at hnx hit1 hpx
      have HB1 := hide (hB1 _ _ hbel (Nat.le_refl _))
      by_cases hjb : j < b.size
      · have hne := isEmpty_f bs (by omega)
        obtain ⟨⟨y, wy⟩, hy⟩ : ∃ q, Utf8.decode b j = q := ⟨_, rfl⟩
        have hpy := dec_pos b j hjb
        have hd : Utf8.decode bs 0 = (y, wy) := by rw [hbs, dec_ext b j hj, hy]
        rw [hy] at hpy
        dsimp only at hpy
        have hc' : (if x = y then cmpF a b (g + 1) (i + wx) (j + wy) else if x < y then -1 else 1) = R := by
          have := hc
          simp only [cmpF, hi, hjb, if_true, hx, hy] at this
          exact this
        have HC' := hide hc'
        have HSZ := hide hsz
        have HPX := hide hpx
        have HPY := hide hpy
        have HJ := hide hj
        have HG := hide hg
        have HI := hide hi
        have HIT := hide hit1
        have HD := hide hd
        have HL1 := hide (iter_lt hit1)
        have HZ1 := hide hz1
        clear hc hc' hbs hsz hpx hpy hj hg hi hit1 hd hbel hB1 hit hx hy hz1
        go_wp2
        go_loopg [1] 2 (fun g2 s1 wz => s1 = .string bs ∧ ∃ p : Nat, wz.heap[w1.heap.size]? = some (.stringIter bs p) ∧ (g2 = 2 ∧ p = 0 ∨ g2 = 1 ∧ p = wy ∧ x = y) ∧ wz.heap[W.heap.size]? = some (.stringIter a (i + wx)) ∧ Below W.heap.size W wz)
        case atStart => exact ⟨rfl, 0, World.iter_heap w1 bs 0, .inl ⟨rfl, rfl⟩, (Below.heap_alloc w1 _ _ (unhide HL1)).trans (unhide HIT), (unhide HB1).alloc (unhide HB1).size _⟩
        case round =>
          obtain ⟨rfl, p, hq, hp, hia, hb2⟩ := hrel
          have HIA := hide hia
          have HBZ := hide hb2
          rcases hp with ⟨rfl, rfl⟩ | ⟨rfl, rfl, hxy⟩
          · have hps : 0 < bs.size := by have := unhide HSZ; omega
            obtain ⟨w2, hnx2, hq2, hz2, hB2⟩ := next_at (P := Tryd.prog) wr w1.heap.size bs 0 hq hps
            rw [unhide HD] at hnx2 hq2
            dsimp only at hnx2 hq2
            have HQ2 := hide hq2
            have hle : W.heap.size ≤ w1.heap.size := Nat.le_of_lt (unhide HL1)
            have HB2 := hide (hB2 _ _ hb2 hle)
            have HIA2 := hide (((hB2 w1.heap.size wr (Below.refl _ _) (Nat.le_refl _)).block _ (unhide HL1)).trans hia)
            clear hq hia hb2 hq2 hz2 hB2 hle hps
            by_cases hxy : x = y
            · have HXY := hide hxy
              subst hxy
              go_wp2
              go_roundg 1
              case measure => omega
              case rel => exact ⟨rfl, wy, by have := unhide HQ2; rw [Nat.zero_add] at this; exact this, .inr ⟨rfl, rfl, by first | rfl | trivial⟩, unhide HIA2, unhide HB2⟩
            · have hxy' : ¬ ((x : Int) = (y : Int)) := by omega
              have hr : R = cmpP x y := by
                have := unhide HC'
                rw [if_neg hxy] at this
                rw [← this]
                unfold cmpP
                by_cases h : x < y
                · rw [if_pos h, if_pos (by omega)]
                · rw [if_neg h, if_neg (by omega), if_pos (by omega)]
              have HRR := hide hr
              clear hr hxy
              go_wp2_with (go_at_call 80; refine (unhide HC _ _ _).mono ?_; rintro e w3 ⟨rfl, hb3⟩; have HB3 := hide ((unhide HB2).trans (hb3.mono (unhide HB2).size)); clear hb3)
              (try rw [Exit.noGoto_ret])
              go_ret
              exact ⟨by rw [unhide HRR]; rfl, unhide HB3⟩
          · subst hxy
            have hcc : cmpF a b (g + 1) (i + wx) (j + p) = R := by
              have := unhide HC'
              rw [if_pos rfl] at this
              exact this
            have HCC := hide hcc
            by_cases hps : p < bs.size
            · obtain ⟨w2, hnx2, hq2, hz2, hB2⟩ := next_at (P := Tryd.prog) wr w1.heap.size bs p hq hps
              have hle : W.heap.size ≤ w1.heap.size := Nat.le_of_lt (unhide HL1)
              have HB2 := hide (hB2 _ _ hb2 hle)
              have HIA2 := hide (((hB2 w1.heap.size wr (Below.refl _ _) (Nat.le_refl _)).block _ (unhide HL1)).trans hia)
              have hp0 : (0 : Int) < (p : Int) := by have := (unhide HPY).1; omega
              have hp1 : (p : Int) ≤ (bs.size : Int) := by omega
              clear hq hia hb2 hq2 hz2 hB2 hle hcc
              go_wp2
              go_roundg g
              case measure => omega
              case rel =>
                have h2 := (unhide HPY).2
                have h3 := unhide HPX
                have h4 := unhide HG
                refine ⟨i + wx, j + p, bs.extract p bs.size, rfl, ?_, h2, by omega, unhide HCC, unhide HIA2, unhide HB2⟩
                exact ext_ext b bs j p (unhide HBS) (unhide HJ) h2
            · have hnx2 := next_end (P := Tryd.prog) wr w1.heap.size bs p hq hps
              clear hq hia hb2 hcc
              go_wp2
              go_roundg g
              case measure => omega
              case rel =>
                have h1 := unhide HSZ
                have h2 := (unhide HPY).2
                have h3 := unhide HPX
                have h4 := unhide HG
                refine ⟨i + wx, j + p, ⟨#[]⟩, rfl, ?_, h2, by omega, unhide HCC, unhide HIA, unhide HBZ⟩
                have e : j + p = b.size := by omega
                rw [e]
                apply ByteArray.ext
                rw [ByteArray.data_extract]
                exact (Array.eq_empty_of_size_eq_zero (by rw [Array.size_extract]; omega)).symm
      · have hem := isEmpty_t bs (by omega)
        have hr : R = 1 := by
          rw [← hc]
          simp [cmpF, hi, hjb]
        have HRR := hide hr
        clear hr hc hbs
        go_wp2
        (try rw [Exit.noGoto_ret])
        go_ret
        exact ⟨by rw [unhide HRR]; rfl, unhide HB1⟩
    · have hnx := next_end (P := Tryd.prog) wr W.heap.size a i hit hi
      by_cases hjb : j < b.size
      · have hne := isEmpty_f bs (by omega)
        have hr : R = -1 := by
          rw [← hc]
          simp [cmpF, hi, hjb]
        have HRR := hide hr
        clear hr hc hbel hbs
        go_wp2
        (try rw [Exit.noGoto_ret])
        go_ret
        exact ⟨by rw [unhide HRR]; rfl, unhide HBL⟩
      · have hem := isEmpty_t bs (by omega)
        have hr : R = 0 := by
          rw [← hc]
          simp [cmpF, hi, hjb]
        have HRR := hide hr
        clear hr hc hbel hbs
        go_wp2
        (try rw [Exit.noGoto_ret])
        go_ret
        exact ⟨by rw [unhide HRR]; rfl, unhide HBL⟩
end Go.Proofs.YthjlhdldomfikaaDoor

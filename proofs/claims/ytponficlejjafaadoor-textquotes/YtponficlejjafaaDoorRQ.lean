/- shuckref1.Quote at every text. -/
import Derived.Test.YtponficlejjafaaDoorQ3
import Derived.Test.YtponficlejjafaaDoorR3
import Derived.Test.YtponficlejjafaaDoorS5
namespace Go.Proofs.YtponficlejjafaaDoor
set_option linter.unusedSimpArgs false
set_option linter.unusedVariables false
open Go.RowKit Go.Shelf

theorem flat_next (f : Nat → Nat × Int) (k : Nat) : (⟨(34 :: flat quo (upto f (k + 1))).toArray⟩ : ByteArray) = ⟨(34 :: flat quo (upto f k)).toArray⟩ ++ ⟨(quo (f k).2).toArray⟩ := by
  rw [upto_succ, flat_snoc]
  apply ByteArray.ext
  simp
theorem flat_size (g : Nat → Int) (len m k : Nat) (hm : Runes g len m) (hk : k ≤ m) : (34 :: flat quo (upto (endAt g len) k)).length ≤ 16 * k + 1 := by
  have h1 := flat_le (quo := quo) (l := upto (endAt g len) k) (fun y hy => by
    simp only [upto, List.mem_map, List.mem_range] at hy
    obtain ⟨j, hj, rfl⟩ := hy
    exact quo_len (dRune_bd (hm.2 j (by omega))).1)
  rw [upto_length] at h1
  simpa using h1
theorem app2 (S a b c : ByteArray) (h : a ++ b = c) : S ++ a ++ b = S ++ c := by rw [ByteArray.append_assoc, h]
theorem e92 : Utf8.encode 92 = ⟨#[92]⟩ := by kernel_rfl
theorem e34 : Utf8.encode 34 = ⟨#[34]⟩ := by kernel_rfl

set_option maxRecDepth 100000 in
set_option maxHeartbeats 2000000 in
theorem rquote_any (s : ByteArray) (w : World) (hs : s.size ≤ 1048576) :
    Calls Tryd.prog 27 #[.string s] w fun e w' => (∃ m, Runes (gS s) s.size m ∧ e = .returned (.string ⟨(34 :: flat quo (upto (endAt (gS s) s.size) m) ++ [34]).toArray⟩)) ∧ Below w.heap.size w w' := by
  obtain ⟨cap, C, fr, hcv, hcap, hcm, hC⟩ := conv_str s w (by omega)
  have HSl : Hid (Sl (w.alloc (.cells C 5 fr)).drew w.heap.size (.slice (some ⟨w.heap.size, 0, none⟩) s.size cap) s.size (gS s)) := by
    by_cases h0 : s.size = 0
    · exact .inl ⟨_, _, by rw [h0], h0⟩
    · refine .inr ⟨0, cap, rfl, by omega, hcap, hcm, fun j hj => ?_⟩
      have h1 : (w.alloc (.cells C 5 fr)).drew.heap[w.heap.size]? = some (.cells C 5 fr) := World.alloc_heap_new w _
      rw [Lib.cell_of_heap h1, Nat.zero_add]; exact hC j hj
  have hBd : Below w.heap.size w (w.alloc (.cells C 5 fr)).drew := ((Below.refl _ w).alloc (Nat.le_refl _) _).drew
  have hzd : (w.alloc (.cells C 5 fr)).drew.heap.size = w.heap.size + 1 := by simp
  clear hC
  go_enter Tryd.func27, Tryd.ntmps27
  go_wp2_with (go_at_call 14; refine (rrunes_any (gS_bd s) _ hs (unhide HSl) (by omega)).mono ?_; rintro e w1 ⟨m, v, rfl, hm, hown, hB1⟩; obtain ⟨ao, cv, rfl⟩ := ownsRow_slice hown; have HO := hide hown; have HB1 := hide hB1; clear hown hB1)
  have hB1 : Below w.heap.size w w1 := hBd.trans ((unhide HB1).mono (by omega))
  have hml := hm.le
  have HM := hide hm
  clear hm hcv hBd HSl
  go_loopw [3, 5] (fun o t wr => ∃ k : Nat, k ≤ m ∧ t = .int .i64 (k : Int) ∧ o = .string ⟨(34 :: flat quo (upto (endAt (gS s) s.size) k)).toArray⟩ ∧ wr = w1) (fun _ t _ => m - (intOf t).toNat)
  case atStart => exact ⟨0, Nat.zero_le _, rfl, rfl, rfl⟩
  case round =>
    obtain ⟨k, hk, rfl, rfl, rfl⟩ := hrel
    have hfs := flat_size (gS s) s.size m k (unhide HM) hk
    obtain ⟨S0, hS0⟩ : ∃ S0 : ByteArray, S0 = ⟨(34 :: flat quo (upto (endAt (gS s) s.size) k)).toArray⟩ := ⟨_, rfl⟩
    have hsz : S0.size ≤ 16 * k + 1 := by
      rw [hS0]
      have e : (⟨(34 :: flat quo (upto (endAt (gS s) s.size) k)).toArray⟩ : ByteArray).size = (34 :: flat quo (upto (endAt (gS s) s.size) k)).length := rfl
      rw [e]; exact hfs
    have hnx := flat_next (endAt (gS s) s.size) k
    rw [← hS0] at hnx ⊢
    have HNX := hide hnx
    have HS0 := hide hS0
    clear hnx hfs hS0
    by_cases hlt : k < m
    · have hlt' : (k : Int) < m := by omega
      have hrb := dRune_bd (g := gS s) ((unhide HM).2 k hlt)
      obtain ⟨gw, cw, hv, hw1, hw2, hc0⟩ := want_cell (j := 0) (unhide HO) hlt (by decide)
      cases hv
      obtain ⟨gw', cw', hv', _, _, hc1⟩ := want_cell (j := 1) (unhide HO) hlt (by decide)
      cases hv'
      obtain ⟨gw', cw', hv', _, _, hc2⟩ := want_cell (j := 2) (unhide HO) hlt (by decide)
      cases hv'
      obtain ⟨gw', cw', hv', _, _, hc3⟩ := want_cell (j := 3) (unhide HO) hlt (by decide)
      cases hv'
      simp only [row4, List.getElem?_cons_zero, List.getElem?_cons_succ, Nat.add_zero] at hc0 hc1 hc2 hc3
      unfold maxLen at hw2
      obtain ⟨r, hr⟩ : ∃ r, dRune (gS s) s.size (posn (gS s) s.size k) = r := ⟨_, rfl⟩
      have HQ : Hid ((⟨(34 :: flat quo (upto (endAt (gS s) s.size) (k + 1))).toArray⟩ : ByteArray) = S0 ++ ⟨(quo r).toArray⟩) := by
        have := unhide HNX
        rw [show (endAt (gS s) s.size k).2 = r from hr] at this
        exact this
      rw [hr] at hc1 hrb
      clear hr HNX
      have g1 : ¬ 9223372036854775807 < S0.size + 1 := by omega
      have g2 : ¬ 9223372036854775807 < S0.size + 1 + 1 := by omega
      have g3 : ¬ 9223372036854775807 < S0.size + 2 := by omega
      by_cases h1 : r = 92
      · subst h1
        have ee := e92
        go_wp2
        exact ⟨⟨k + 1, by omega, by go_num, congrArg Value.string (by rw [unhide HQ]; first | rfl | exact app2 _ _ _ _ rfl), trivial⟩, by simp [intOf]; omega⟩
      by_cases h2 : r = 34
      · subst h2
        have ee := e34
        go_wp2
        exact ⟨⟨k + 1, by omega, by go_num, congrArg Value.string (by rw [unhide HQ]; first | rfl | exact app2 _ _ _ _ rfl), trivial⟩, by simp [intOf]; omega⟩
      by_cases h3 : r = 10
      · subst h3
        go_wp2
        exact ⟨⟨k + 1, by omega, by go_num, congrArg Value.string (by rw [unhide HQ]; first | rfl | exact app2 _ _ _ _ rfl), trivial⟩, by simp [intOf]; omega⟩
      by_cases h4 : r = 13
      · subst h4
        go_wp2
        exact ⟨⟨k + 1, by omega, by go_num, congrArg Value.string (by rw [unhide HQ]; first | rfl | exact app2 _ _ _ _ rfl), trivial⟩, by simp [intOf]; omega⟩
      by_cases h5 : r = 9
      · subst h5
        go_wp2
        exact ⟨⟨k + 1, by omega, by go_num, congrArg Value.string (by rw [unhide HQ]; first | rfl | exact app2 _ _ _ _ rfl), trivial⟩, by simp [intOf]; omega⟩
      have a1 : (r == 92) = false := by simpa using h1
      have a2 : (r == 34) = false := by simpa using h2
      have a3 : (r == 10) = false := by simpa using h3
      have a4 : (r == 13) = false := by simpa using h4
      have a5 : (r == 9) = false := by simpa using h5
      by_cases h6 : r < 32 ∨ r = 127
      · obtain ⟨X, hX⟩ : ∃ X : ByteArray, X = ⟨(hexB r.toNat).toArray⟩ := ⟨_, rfl⟩
        have HX := hide (hex_any r hrb.1 h6 h5 h3 h4)
        have HE : Hid ((⟨(quo r).toArray⟩ : ByteArray) = ⟨#[92, 117, 123]⟩ ++ X ++ ⟨#[125]⟩) := by
          show (⟨(quo r).toArray⟩ : ByteArray) = _
          rw [quo_ctl h6 h5 h3 h4, hX]
          apply ByteArray.ext
          simp
        have hXs : X.size ≤ 2 := by
          rw [hX]
          show (hexB r.toNat).length ≤ 2
          unfold hexB
          split <;> simp
        rw [← hX] at HX
        clear hX
        have g4 : ¬ 9223372036854775807 < S0.size + 3 := by omega
        have g5 : ¬ 9223372036854775807 < S0.size + 3 + X.size := by omega
        have g6 : ¬ 9223372036854775807 < S0.size + 3 + X.size + 1 := by omega
        have hwr : IntKind.i64.wrap r = r := wrap_small r hrb.1 (by omega)
        by_cases h7 : r < 32
        · go_wp2_with (go_at_call 42; refine (unhide HX _).mono ?_; rintro e w' ⟨rfl, rfl⟩)
          exact ⟨⟨k + 1, by omega, by go_num, congrArg Value.string (by rw [unhide HQ, unhide HE]; simp only [ByteArray.append_assoc]), trivial⟩, by simp [intOf]; omega⟩
        · obtain rfl : r = 127 := by omega
          go_wp2_with (go_at_call 42; refine (unhide HX _).mono ?_; rintro e w' ⟨rfl, rfl⟩)
          exact ⟨⟨k + 1, by omega, by go_num, congrArg Value.string (by rw [unhide HQ, unhide HE]; simp only [ByteArray.append_assoc]), trivial⟩, by simp [intOf]; omega⟩
      · have h7 : ¬ r < 32 := by omega
        have a7 : (r == 127) = false := by simp; omega
        have hes := encode_size_le r
        have g4 : ¬ 9223372036854775807 < S0.size + (Utf8.encode r).size := by omega
        have HE : Hid ((⟨(quo r).toArray⟩ : ByteArray) = Utf8.encode r) := by
          show (⟨(quo r).toArray⟩ : ByteArray) = Utf8.encode r
          rw [quo_else (by omega) h1 h2 (by omega), Array.toArray_toList]
        go_wp2
        exact ⟨⟨k + 1, by omega, by go_num, congrArg Value.string (by rw [unhide HQ, unhide HE]), trivial⟩, by simp [intOf]; omega⟩
    · have hlt' : ¬ (k : Int) < m := by omega
      obtain rfl : k = m := by omega
      have g1 : ¬ 9223372036854775807 < S0.size + 1 := by omega
      go_wp2
      go_ret
      refine ⟨⟨k, unhide HM, ?_⟩, hB1⟩
      rw [unhide HS0]
      refine congrArg (fun x => Ending.returned (Value.string x)) ?_
      apply ByteArray.ext
      simp
end Go.Proofs.YtponficlejjafaaDoor

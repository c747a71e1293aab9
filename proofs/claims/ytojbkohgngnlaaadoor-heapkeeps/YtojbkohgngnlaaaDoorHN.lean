/- The law HeapBehind, walked. -/
import Derived.LoopTactic
import Derived.LoopN
import Derived.Test.YtojbkohgngnlaaaDoorHM
namespace Go.Proofs.YtojbkohgngnlaaaDoor
set_option linter.unusedSimpArgs false
set_option linter.unusedVariables false
set_option maxRecDepth 100000
set_option maxHeartbeats 4000000
open Go.RowKit Go.Shelf

theorem New5000 (W : World) : ∃ w1, Calls Tryd.prog 6 #[.int .i64 5000] W (fun e w' => e = .returned (.tuple #[ptr W.heap.size, .int .i64 0]) ∧ w' = w1) ∧ HAt w1 (newLy W.heap.size) W.heap.size ⟨5000, 0, []⟩ ∧ Below W.heap.size W w1 ∧ (∀ k, k < W.heap.size → (newLy W.heap.size).L k = 0) :=
  ⟨_, New_ok 5000 (by decide) W, new_at W 5000 (by decide), below_one _ _, fun k hk => by simp [newLy]; omega⟩
theorem behind_big (n : Int) (key : ByteArray) (h : n < 1 ∨ 60 < n ∨ 100 < key.size) : Ret 5 #[.int .i64 n, .string key] (.bool true) := by
  intro W
  obtain ⟨w1, hn, _, hb1, _⟩ := New5000 W
  have HN := hide hn
  have HB := hide hb1
  have HK := hide known_any
  unfold ptr at HN
  clear hn hb1
  by_cases h1 : n < 1
  · clear h
    go_enter Tryd.func5, Tryd.ntmps5
    go_wp2_with (first
      | (go_at_call 6; refine (unhide HN).mono ?_; rintro e w1' ⟨rfl, hw⟩; have hw' := hw.symm; subst hw'; clear hw)
      | (go_at_call 7; refine (unhide HK _).mono ?_; rintro e w2 ⟨rfl, hb2⟩; have HB2 := hide (Below.up (unhide HB) hb2); clear hb2))
    go_ret
    exact ⟨rfl, unhide HB2⟩
  · by_cases h2 : 60 < n
    · clear h
      go_enter Tryd.func5, Tryd.ntmps5
      go_wp2_with (first
        | (go_at_call 6; refine (unhide HN).mono ?_; rintro e w1' ⟨rfl, hw⟩; have hw' := hw.symm; subst hw'; clear hw)
        | (go_at_call 7; refine (unhide HK _).mono ?_; rintro e w2 ⟨rfl, hb2⟩; have HB2 := hide (Below.up (unhide HB) hb2); clear hb2))
      go_ret
      exact ⟨rfl, unhide HB2⟩
    · have h3 : (100 : Int) < key.size := by omega
      clear h
      go_enter Tryd.func5, Tryd.ntmps5
      go_wp2_with (first
        | (go_at_call 6; refine (unhide HN).mono ?_; rintro e w1' ⟨rfl, hw⟩; have hw' := hw.symm; subst hw'; clear hw)
        | (go_at_call 7; refine (unhide HK _).mono ?_; rintro e w2 ⟨rfl, hb2⟩; have HB2 := hide (Below.up (unhide HB) hb2); clear hb2))
      go_ret
      exact ⟨rfl, unhide HB2⟩
theorem behind_main (N : Nat) (key : ByteArray) (h1 : 1 ≤ N) (h2 : N ≤ 60) (h3 : key.size ≤ 100) : Ret 5 #[.int .i64 N, .string key] (.bool true) := by
  intro W
  obtain ⟨w1, hn, hh1, hb1, hl1⟩ := New5000 W
  have HN := hide hn
  have HB := hide hb1
  have HL := hide hl1
  have HK := hide known_any
  have HH1 : Hid (HAt w1 (newLy W.heap.size) W.heap.size (BH 0 0 key)) := hh1
  have HMK : Hid (∀ (i : Nat) (l : Ly) (w : World), i < N → HAt w l W.heap.size (BH i 0 key) → Calls Tryd.prog 8 #[.pointer (some ⟨W.heap.size, 0, none⟩), .int .i64 1, .int .i64 ((i : Int) - 1)] w fun e w' => e = .returned (.tuple #[.int .i64 i, .int .i64 0]) ∧ ∃ l', HAt w' l' W.heap.size (BH (i + 1) 0 key) ∧ St l.L l'.L w w') := fun i l w hi h => by
    have := Make_ok h (BH_cells i 0 key) (by show i + 0 < 5000; omega) 1 ((i : Int) - 1)
    rw [BH_make, BH_len] at this
    exact this
  have HSE : Hid (∀ (i : Nat) (l : Ly) (w : World), i < N → HAt w l W.heap.size (BH N i key) → Calls Tryd.prog 9 #[.pointer (some ⟨W.heap.size, 0, none⟩), .agg #[.int .i64 5, .int .i64 i, .string ⟨#[]⟩], .string key, .agg #[.int .i64 3, .int .i64 i, .string ⟨#[]⟩]] w fun e w' => e = .returned (.tuple #[.string ⟨#[]⟩, .int .i64 0]) ∧ ∃ l', HAt w' l' W.heap.size (BH N (i + 1) key) ∧ St l.L l'.L w w') := fun i l w hi h => by
    have := Set_new h i (bth i key i) (BH_get N i key i hi) (by simp [bth]) key (by omega) ⟨#[]⟩ ⟨3, i, ⟨#[]⟩⟩ (Nat.zero_le _) (by simp [bth, look]) (BH_cells N i key) (by show N + i < 5000; omega)
    rw [BH_set N i key hi h2] at this
    refine this.mono ?_
    rintro e w' ⟨rfl, l', q1, q2, _⟩
    exact ⟨rfl, l', q1, q2⟩
  have HGT : Hid (∀ (i k : Nat) (l : Ly) (w : World), i < N → k < N → HAt w l W.heap.size (BH N (i + 1) key) → Calls Tryd.prog 10 #[.pointer (some ⟨W.heap.size, 0, none⟩), .agg #[.int .i64 5, .int .i64 k, .string ⟨#[]⟩], .string key] w fun e w' => e = .returned (.tuple #[.agg #[.int .i64 3, .int .i64 (min (i : Int) (k : Int)), .string ByteArray.empty], .string ⟨#[]⟩, .int .i64 0]) ∧ Below w.heap.size w w') := fun i k l w hi hk h => by
    have := Get_1 h k (bth (i + 1) key k) (BH_get N (i + 1) key k hk) (by simp [bth]) key (by unfold maxLen; omega) 3 (min (i : Int) (k : Int)) ByteArray.empty true (by rw [BH_fnd N (i + 1) key (by omega) k hk]; simp; omega) (by rw [BH_fnd N (i + 1) key (by omega) k hk]; rfl) (by decide) ⟨#[]⟩
    exact this
  have HUS : Hid (∀ (l : Ly) (w : World), HAt w l W.heap.size (BH N N key) → Calls Tryd.prog 15 #[.pointer (some ⟨W.heap.size, 0, none⟩)] w fun e w' => e = .returned (.int .i64 ((N : Int) + N)) ∧ w' = w) := fun l w h => by
    have := Used_any h
    rw [show ((BH N N key).used : Int) = (N : Int) + N from by show ((N + N : Nat) : Int) = _; omega] at this
    exact this
  unfold ptr at HN
  clear hn hh1 hb1 hl1
  have hN1 : ¬ ((N : Int) < 1) := by omega
  have hN2 : ¬ ((60 : Int) < N) := by omega
  have hk3 : ¬ ((100 : Int) < key.size) := by omega
  go_enter Tryd.func5, Tryd.ntmps5
  go_wp2_with (first
    | (go_at_call 6; refine (unhide HN).mono ?_; rintro e w1' ⟨rfl, hw⟩; have hw' := hw.symm; subst hw'; clear hw))
  go_loopw [7, 8] (fun u t wr => ∃ i : Nat, i ≤ N ∧ u = .int .i64 ((i : Int) - 1) ∧ t = .int .i64 i ∧ ∃ l, HAt wr l W.heap.size (BH i 0 key) ∧ St (newLy W.heap.size).L l.L w1 wr) (fun _ t _ => N - (intOf t).toNat)
  case atStart => exact ⟨0, Nat.zero_le _, rfl, rfl, _, unhide HH1, St.refl _ _⟩
  case round =>
    obtain ⟨i, hi, rfl, rfl, l, hh, hs⟩ := hrel
    have HH := hide hh
    have HS := hide hs
    clear hh hs
    by_cases hlt : i < N
    · have hlt' : (i : Int) < N := by omega
      go_wp2_with (first
        | (go_at_call 8; refine (unhide HMK i l wr hlt (unhide HH)).mono ?_; rintro e w2 ⟨rfl, l2, h2, s2⟩; have H2 := hide h2; have S2 := hide ((unhide HS).trans s2); clear h2 s2))
      refine ⟨⟨i + 1, by omega, ?_, ?_, l2, unhide H2, unhide S2⟩, ?_⟩
      · congr 1; omega
      · congr 1
      · simp [intOf]; omega
    · have e : i = N := by omega
      subst e
      clear HMK hlt
      go_wp2
      go_loopw [9] (fun t wr => ∃ j : Nat, j ≤ i ∧ t = .int .i64 j ∧ ∃ l, HAt wr l W.heap.size (BH i j key) ∧ St (newLy W.heap.size).L l.L w1 wr) (fun t _ => i - (intOf t).toNat)
      case atStart => exact ⟨0, Nat.zero_le _, rfl, l, unhide HH, unhide HS⟩
      case round =>
        obtain ⟨j, hj, rfl, l3, hh, hs⟩ := hrel
        have HH3 := hide hh
        have HS3 := hide hs
        clear hh hs HH HS
        by_cases hlt : j < i
        · have hlt' : (j : Int) < i := by omega
          go_wp2_with (first
            | (go_at_call 9; refine (unhide HSE j l3 _ hlt (unhide HH3)).mono ?_; rintro e w2 ⟨rfl, l4, h2, s2⟩; have H4 := hide h2; have S4 := hide ((unhide HS3).trans s2); clear h2 s2))
          go_loopw [10] (fun t wr => ∃ k : Nat, k ≤ i ∧ t = .int .i64 k ∧ Below w2.heap.size w2 wr) (fun t _ => i - (intOf t).toNat)
          case atStart => exact ⟨0, Nat.zero_le _, rfl, Below.refl _ _⟩
          case round =>
            obtain ⟨k, hk, rfl, hb⟩ := hrel
            have HB2 := hide hb
            clear hb
            by_cases hkt : k < i
            · have hkt' : (k : Int) < i := by omega
              go_wp2_with (first
                | (go_at_call 10; refine (unhide HGT j k l4 _ hlt hkt ((unhide H4).below (unhide HB2))).mono ?_; rintro e w5 ⟨rfl, hb5⟩; obtain ⟨w6, hw6, ⟨na, nb, nc, o0, o1, o2⟩, hx6, hb6, hz6⟩ := new3 w5 (.int .i64 0) (.int .i64 0) (.string ⟨#[]⟩) 32; have HB6 := hide (Below.up (Below.up (unhide HB2) hb5) hb6); have HZ6 := hide hz6; have HB5 := hide (Below.up (unhide HB2) hb5); clear hb5 hx6 hb6 hz6))
              refine ⟨⟨k + 1, by omega, by congr 1, below_put3 (unhide HB6) (unhide HB5).size _ _ _⟩, by simp [intOf]; omega⟩
            · have e : k = i := by omega
              subst e
              clear hkt
              go_wp2
              refine ⟨⟨j + 1, by omega, by congr 1, l4, (unhide H4).below (unhide HB2), (unhide S4).trans (St.of_below (unhide HB2))⟩, by simp [intOf]; omega⟩
        · have e : j = i := by omega
          subst e
          clear hlt HSE HGT
          go_wp2_with (first
            | (go_at_call 15; refine (unhide HUS l3 _ (unhide HH3)).mono ?_; rintro e w7 ⟨rfl, hw7⟩; have hw7' := hw7.symm; subst hw7'; clear hw7)
            | (go_at_call 7; refine (unhide HK _).mono ?_; rintro e w8 ⟨rfl, hb8⟩; have HB8 := hide hb8; clear hb8))
          go_ret
          exact ⟨rfl, (unhide HB).trans (((unhide HS3).below (unhide HB).size (unhide HL)).trans ((unhide HB8).mono (Nat.le_trans (unhide HB).size (unhide HS3).size)))⟩
/-- The law, at every number and text. -/
theorem heapBehind_any (n : Int) (key : ByteArray) : Ret 5 #[.int .i64 n, .string key] (.bool true) := by
  by_cases h : n < 1 ∨ 60 < n ∨ 100 < key.size
  · exact behind_big n key h
  · have := behind_main n.toNat key (by omega) (by omega) (by omega)
    rwa [Int.toNat_of_nonneg (by omega)] at this
end Go.Proofs.YtojbkohgngnlaaaDoor

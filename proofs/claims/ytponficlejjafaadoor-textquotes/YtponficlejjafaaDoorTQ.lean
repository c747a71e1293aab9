/- shucklaw1.TextQuotes, walked at every text. -/
import Derived.Test.YtponficlejjafaaDoorRQ
namespace Go.Proofs.YtponficlejjafaaDoor
set_option linter.unusedSimpArgs false
set_option linter.unusedVariables false
open Go.RowKit Go.Shelf

set_option maxHeartbeats 1000000 in
theorem textQuotes_big (s : ByteArray) (w : World) (h : 4000 < s.size) (hm : s.size ≤ maxLen) :
    Calls Tryd.prog 8 #[.string s] w fun e w' => e = .returned (.bool true) ∧ Below w.heap.size w w' := by
  unfold maxLen at hm
  have h' : (4000 : Int) < s.size := by omega
  go_enter Tryd.func8, Tryd.ntmps8
  go_wp2
  go_ret
  exact ⟨rfl, Below.refl _ _⟩

theorem qget {Q : ByteArray} {L : List UInt8} (hQ : Q = ⟨L.toArray⟩) {j : Nat} {b : UInt8} (hb : L[j]? = some b) : ∀ h : j < Q.size, Q[j].toNat = b.toNat := by
  subst hQ
  intro h
  have hj : j < L.length := (List.getElem?_eq_some_iff.1 hb).1
  have he : L[j] = b := (List.getElem?_eq_some_iff.1 hb).2
  show (L.toArray[j]).toNat = b.toNat
  simp [he]

set_option maxRecDepth 100000 in
set_option maxHeartbeats 2000000 in
theorem textQuotes_small (s : ByteArray) (w : World) (h : s.size ≤ 4000) (hT : Tab w) :
    Calls Tryd.prog 8 #[.string s] w fun e w' => e = .returned (.bool true) ∧ Below w.heap.size w w' := by
  have h' : ¬ (4000 : Int) < s.size := by omega
  have h4 : decide ((4000 : Int) < s.size) = false := by simp; omega
  obtain ⟨m, hm, _⟩ := runes_exist (gS s) s.size
  have hml := hm.le
  obtain ⟨F, hF⟩ : ∃ F, F = flat quo (upto (endAt (gS s) s.size) m) := ⟨_, rfl⟩
  have hFl : F.length ≤ 16 * m := by
    have := flat_size (gS s) s.size m m hm (Nat.le_refl _)
    rw [hF]
    simpa using this
  have hFo : okB 34 F := by
    rw [hF]
    exact flat_ok _ _ (fun x hx => by
      simp only [upto, List.mem_map, List.mem_range] at hx
      obtain ⟨j, hj, rfl⟩ := hx
      exact (dRune_bd (hm.2 j hj)).1)
  obtain ⟨Q, hQ⟩ : ∃ Q : ByteArray, Q = ⟨(34 :: F ++ [34]).toArray⟩ := ⟨_, rfl⟩
  have HC1 : Hid (Calls Tryd.prog 26 #[.string s] w fun e w' => e = .returned (.string Q) ∧ Below w.heap.size w w') := by
    refine (quote_all s w (by omega) hT).mono ?_
    rintro e w' ⟨⟨m', hm', rfl⟩, hB⟩
    obtain rfl := hm'.unique hm
    rw [hQ, hF]
    exact ⟨rfl, hB⟩
  have HC2 : Hid (∀ w, Calls Tryd.prog 27 #[.string s] w fun e w' => e = .returned (.string Q) ∧ Below w.heap.size w w') := fun w => by
    refine (rquote_any s w (by omega)).mono ?_
    rintro e w' ⟨⟨m', hm', rfl⟩, hB⟩
    obtain rfl := hm'.unique hm
    rw [hQ, hF]
    exact ⟨rfl, hB⟩
  have hQs : Q.size = F.length + 2 := by
    rw [hQ]
    show (34 :: F ++ [34]).length = _
    simp
  clear hF
  have hq0 : ∀ h : 0 < Q.size, Q[0].toNat = 34 := qget (b := 34) hQ (by simp)
  have hql : ∀ h : F.length + 1 < Q.size, Q[F.length + 1].toNat = 34 := qget (b := 34) hQ (by simp)
  have HQ := hide hQ
  clear hQ
  have hd : ¬ ((F.length : Int) + 2 < 2) := by omega
  go_enter Tryd.func8, Tryd.ntmps8
  go_wp2_with (first | (go_at_call 26; refine (unhide HC1).mono ?_; rintro e w1 ⟨rfl, hB1⟩) | (go_at_call 27; refine (unhide HC2 _).mono ?_; rintro e w2 ⟨rfl, hB2⟩))
  have hBw2 : Below w.heap.size w w2 := hB1.trans (hB2.mono hB1.size)
  clear hq0 hql hd HC1 HC2
  go_loopw [4] (fun t wr => ∃ k : Nat, k ≤ F.length ∧ t = .int .i64 ((k : Int) + 1) ∧ wr = w2) (fun t _ => F.length + 1 - (intOf t).toNat)
  case atStart => exact ⟨0, Nat.zero_le _, rfl, rfl⟩
  case round =>
    obtain ⟨k, hk, rfl, rfl⟩ := hrel
    by_cases hlt : k < F.length
    · have hl1 : (k : Int) + 1 < (F.length : Int) + 2 - 1 := by omega
      have hlb : decide ((k : Int) + 1 < (F.length : Int) + 2 - 1) = true := by simpa using hl1
      obtain ⟨b, hb⟩ : ∃ b, F[k]? = some b := ⟨_, List.getElem?_eq_getElem hlt⟩
      obtain ⟨q, hq⟩ : ∃ q, (34 :: F)[k]? = some q := ⟨_, List.getElem?_eq_getElem (by simp; omega)⟩
      obtain ⟨ob1, ob2, ob3⟩ := okB_get F 34 hFo k b q hb hq
      have hb1 : ∀ h : k + 1 < Q.size, Q[k + 1].toNat = b.toNat := qget (b := b) (unhide HQ) (by
        rw [List.cons_append, List.getElem?_cons_succ, List.getElem?_append_left hlt]; exact hb)
      have hq1 : ∀ h : k < Q.size, Q[k].toNat = q.toNat := qget (b := q) (unhide HQ) (by
        rw [List.getElem?_append_left (by simp; omega)]; exact hq)
      obtain ⟨bn, hbn⟩ : ∃ n, b.toNat = n := ⟨_, rfl⟩
      obtain ⟨qn, hqn⟩ : ∃ n, q.toNat = n := ⟨_, rfl⟩
      rw [hbn] at hb1 ob1 ob2 ob3
      rw [hqn] at hq1 ob3
      clear hb hq hbn hqn hFo
      have b1 : ¬ (bn : Int) < 32 := by omega
      have b1d : decide ((bn : Int) < 32) = false := by simpa using b1
      have b1n : decide (bn < 32) = false := by simp; omega
      have b2 : ((bn : Int) == 127) = false := by simp; omega
      by_cases h34 : bn = 34
      · subst h34
        obtain rfl := ob3 rfl
        go_wp2
        exact ⟨⟨k + 1, by omega, by go_num, trivial⟩, by simp [intOf]; omega⟩
      · have b3 : ((bn : Int) == 34) = false := by simp; omega
        go_wp2
        exact ⟨⟨k + 1, by omega, by go_num, trivial⟩, by simp [intOf]; omega⟩
    · have hl1 : ¬ (k : Int) + 1 < (F.length : Int) + 2 - 1 := by omega
      have hlb : decide ((k : Int) + 1 < (F.length : Int) + 2 - 1) = false := by simpa using hl1
      go_wp2_with (go_at_call 13; refine (known_any _).mono ?_; rintro e w6 ⟨rfl, hB6⟩)
      go_ret
      exact ⟨rfl, hBw2.trans (hB6.mono hBw2.size)⟩
end Go.Proofs.YtponficlejjafaaDoor

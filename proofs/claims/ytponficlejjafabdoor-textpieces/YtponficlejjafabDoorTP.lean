/- shucklaw1.TextPieces, walked at every row of bytes. -/
import Derived.Test.YtponficlejjafabDoorPA
import Derived.Test.YtponficlejjafabDoorF1
import Derived.Test.YtponficlejjafabDoorE1
namespace Go.Proofs.YtponficlejjafabDoor
set_option linter.unusedSimpArgs false
set_option linter.unusedVariables false
open Go.RowKit Go.Shelf

theorem upto_add {α : Type} (f : Nat → α) (a b : Nat) : upto f (a + b) = upto f a ++ upto (fun j => f (a + j)) b := by
  simp [upto, List.range_add, List.map_map, Function.comp_def]
theorem ownsRow_slice {w : World} {base : Nat} {e : TypeId} {size : Nat} {v : Value} {n : Nat} {xs : List Value} (h : w.ownsRow base e size v n xs) : ∃ ao cap, v = .slice ao n cap := by
  rcases h.2 with ⟨h, h0⟩ | ⟨gw, cap, cur, h, _⟩
  · exact ⟨none, 0, by rw [h, h0]⟩
  · exact ⟨_, cap, h⟩
theorem upto_get {α : Type} (f : Nat → α) {k j : Nat} (h : j < k) : (upto f k)[j]? = some (f j) := by simp [upto, h]

set_option maxHeartbeats 1000000 in
theorem textPieces_big {a : Option Addr} {len cap : Nat} (w : World) (h : 4000 < len) (hm : len ≤ maxLen) :
    Calls Tryd.prog 3 #[.slice a len cap] w fun e w' => e = .returned (.bool true) ∧ Below w.heap.size w w' := by
  unfold maxLen at hm
  have h' : (4000 : Int) < len := by omega
  go_enter Tryd.func3, Tryd.ntmps3
  go_wp2
  go_ret
  exact ⟨rfl, Below.refl _ _⟩

/-- The two rows are the same bytes. -/
theorem bytes_row {b base : Nat} {a : Option Addr} {len cap : Nat} {g : Nat → Int} {v : Value} {w : World} (hlen : len ≤ maxLen) (hS : Sl w b (.slice a len cap) len g) (hb : b < w.heap.size) (hown : w.ownsRow base 5 1 v len (upto (fun j => Value.int .u8 (g j)) len)) :
    Calls Tryd.prog 10 #[v, .slice a len cap] w fun e w' => e = .returned (.bool true) ∧ Below w.heap.size w w' := by
  rcases hS with ⟨_, _, h, rfl⟩ | ⟨off, cap', h, h0, h1, h2, hc⟩
  · obtain ⟨ao, cv, rfl⟩ := ownsRow_slice hown
    exact bytes_none _ _ _ _ w
  · cases h
    rcases hown.2 with ⟨_, h00⟩ | ⟨gw, cv, cur, rfl, _, hgw, _⟩
    · omega
    · have hcells := hown.cells (g := gw) rfl
      refine bytes_some gw 0 cv b off cap len g w hlen (fun j hj => ?_) hc (Array.getElem?_eq_some_iff.1 hgw).1 hb
      have := hcells j _ (upto_get _ hj)
      rw [Addr.add_lit] at this
      exact this

set_option maxRecDepth 100000 in
set_option maxHeartbeats 2000000 in
theorem textPieces_small {b : Nat} {a : Option Addr} {len cap : Nat} {g : Nat → Int} (hg : ∀ j, 0 ≤ g j ∧ g j ≤ 255) (w : World) (h : len ≤ 4000) (hS : Sl w b (.slice a len cap) len g) (hb : b < w.heap.size) :
    Calls Tryd.prog 3 #[.slice a len cap] w fun e w' => e = .returned (.bool true) ∧ Below w.heap.size w w' := by
  have h' : ¬ (4000 : Int) < len := by omega
  have h4 : decide ((4000 : Int) < len) = false := by simp; omega
  obtain ⟨i0, hi, hz0, hz1, hz2⟩ := info_parts infoByte
  have HSA : Hid (∀ W, Below w.heap.size w W → Sl W b (.slice a len cap) len g) := fun W hW => hS.keep (fun k e => by subst e; exact hW.block k hb)
  clear hS
  go_enter Tryd.func3, Tryd.ntmps3
  go_wp2
  go_loopw [3, 4] (fun t o wr => ∃ k : Nat, Before g len k ∧ t = .int .i64 (posn g len k : Int) ∧ wr.ownsRow w.heap.size 5 1 o (posn g len k) (upto (fun j => Value.int .u8 (g j)) (posn g len k)) ∧ Below w.heap.size w wr) (fun t _ _ => len - (intOf t).toNat)
  case atStart => exact ⟨0, fun j hj => by omega, rfl, World.ownsRow_nil _ _ _ _, Below.refl _ _⟩
  case round =>
    obtain ⟨k, hbf, rfl, hown, hB⟩ := hrel
    obtain ⟨ao, cv, rfl⟩ := ownsRow_slice hown
    have HO := hide hown
    clear hown
    have hpl := posn_le g len k
    have hsr := hB.size
    by_cases hlt : posn g len k < len
    · obtain ⟨i, hie⟩ : ∃ i, posn g len k = i := ⟨_, rfl⟩
      have hps : posn g len (k + 1) = i + stepN g len i := by rw [← hie]; rfl
      have HPS := hide hps
      have HBF := hide (hbf.succ hlt)
      rw [hie] at HO hlt ⊢
      have hlt' : (i : Int) < len := by omega
      have HSr := hide (unhide HSA _ hB)
      have HD := hide (decode_sl hg (unhide HSr) (i : Int))
      clear hps hbf hpl hie
      cases hgd : good g len i with
      | true =>
        obtain ⟨e1, e2, e3⟩ := dYes hlt hgd
        have hec := enc_cells hg hgd
        have hst : stepN g len i = wid (g i) := by simp [stepN, hlt, hgd]
        have hw1 : 1 ≤ wid (g i) ∧ i + wid (g i) ≤ len := by
          simp only [good, Bool.and_eq_true, decide_eq_true_eq] at hgd
          omega
        have hw4 := wid_le (g i)
        obtain ⟨n, hn⟩ : ∃ n, wid (g i) = n := ⟨_, rfl⟩
        obtain ⟨r, hr⟩ : ∃ r, acc g i (wid (g i) - 1) = r := ⟨_, rfl⟩
        rw [hr] at e1 hec
        rw [hn] at hec hst hw1 hw4 e2
        rw [e1, e2, e3] at HD
        rw [hst] at HPS
        have hsz : (Utf8.encode r).size = n := by
          have := congrArg List.length hec
          rw [upto_length, Lib.strCells_length] at this
          exact this
        have HEC := hide hec
        clear hec e1 e2 e3 hgd hr hst hn HSA
        have n1 : ¬ (n : Int) < 1 := by omega
        have n2 : ¬ (4 : Int) < n := by omega
        have n3 : ¬ (len : Int) < i + n := by omega
        have n1b : decide ((n : Int) < 1) = false := by simpa using n1
        have n2b : decide ((4 : Int) < n) = false := by simpa using n2
        have n3b : decide ((len : Int) < (i : Int) + n) = false := by simpa using n3
        go_wp2_with (first | (go_at_call 9; refine (unhide HD).mono ?_; rintro e w1 ⟨rfl, rfl⟩) | (at_builtin; refine wpList_append_str rfl _ _ 22 9 rfl w.heap.size 5 i0 Tryd.underlying22 Tryd.underlying9 hi hz0 hz1 hz2 _ _ _ rfl (unhide HO) (Utf8.encode r) rfl ?c3 ?c4 ?c5 ?_))
        case c3 => rw [hsz]; unfold maxLen; omega
        case c4 => rw [hsz]; omega
        case c5 => omega
        intro v' w2 hown' hgrow _
        have HO2 : Hid (w2.ownsRow w.heap.size 5 1 v' (i + n) (upto (fun j => Value.int .u8 (g j)) (i + n))) := by
          show w2.ownsRow w.heap.size 5 1 v' (i + n) (upto (fun j => Value.int .u8 (g j)) (i + n))
          rw [upto_add, ← unhide HEC]
          simpa [hsz] using hown'
        have hB2 : Below w.heap.size w w2 := hB.grown hgrow hsr (fun k hk => ((unhide HO).lt k hk).1)
        clear hown' hgrow
        obtain ⟨ao', cv', rfl⟩ := ownsRow_slice (unhide HO2)
        go_wp2
        exact ⟨⟨k + 1, unhide HBF, by rw [unhide HPS]; go_num, by rw [unhide HPS]; exact unhide HO2, hB2⟩, by simp [intOf]; omega⟩
      | false =>
        obtain ⟨e1, e2, e3⟩ := dBad hlt hgd
        have hst : stepN g len i = 1 := by simp [stepN, hlt, hgd]
        rw [e1, e2, e3] at HD
        rw [hst] at HPS
        obtain ⟨off, cap', hv, h0, h1, h2, hcs⟩ : ∃ off cap', Value.slice a len cap = .slice (some ⟨b, off, none⟩) len cap' ∧ 0 < len ∧ len ≤ cap' ∧ cap' ≤ maxLen ∧ ∀ j, j < len → wr.cell? ⟨b, off + j, none⟩ = some (.int .u8 (g j)) := by
          rcases unhide HSr with ⟨_, _, h, h0⟩ | h
          · omega
          · exact h
        cases hv
        have hci := hcs i hlt
        clear e1 e2 e3 hgd hst HSA hcs HSr
        unfold maxLen at h2
        have n3 : ¬ (len : Int) < i + 1 := by omega
        have n3b : decide ((len : Int) < (i : Int) + 1) = false := by simpa using n3
        go_wp2_with (first | (go_at_call 9; refine (unhide HD).mono ?_; rintro e w1 ⟨rfl, rfl⟩) | (at_builtin; refine wpList_append_own _ rfl _ _ 22 rfl w.heap.size 5 i0 (.int .u8 0) 1 1 Tryd.underlying22 hi hz0 hz1 hz2 rfl (by decide) _ _ _ rfl ((unhide HO).alloc _) ⟨w1.heap.size, 0, none⟩ 1 1 [.int .u8 (g i)] rfl rfl ?c1 ?c2 ?c3 ?c4 ?c5 ?_))
        case c1 =>
          intro j x hj
          match j, hj with
          | 0, hj => simp at hj; subst hj; simp [Addr.add]
        case c2 => intro x hx; simp at hx; subst hx; rfl
        case c3 => unfold maxLen; omega
        case c4 => omega
        case c5 => simp; omega
        intro v' w2 hown' hgrow _
        have HO2 : Hid (w2.ownsRow w.heap.size 5 1 v' (i + 1) (upto (fun j => Value.int .u8 (g j)) (i + 1))) := by
          show w2.ownsRow w.heap.size 5 1 v' (i + 1) (upto (fun j => Value.int .u8 (g j)) (i + 1))
          rw [upto_succ]
          exact hown'
        have hB2 : Below w.heap.size w w2 := (hB.alloc hsr _).grown hgrow (by simp; omega) (fun k hk => ((unhide HO).lt k hk).1)
        clear hown' hgrow
        obtain ⟨ao', cv', rfl⟩ := ownsRow_slice (unhide HO2)
        go_wp2
        exact ⟨⟨k + 1, unhide HBF, by rw [unhide HPS]; go_num, by rw [unhide HPS]; exact unhide HO2, hB2⟩, by simp [intOf]; omega⟩
    · have hlt' : ¬ (posn g len k : Int) < len := by omega
      have hpe : posn g len k = len := by omega
      rw [hpe] at HO hlt' ⊢
      have HBY := hide (bytes_row (by unfold maxLen; omega) (unhide HSA _ hB) (by omega) (unhide HO))
      clear HSA
      go_wp2_with (first | (go_at_call 10; refine (unhide HBY).mono ?_; rintro e w2 ⟨rfl, hB2⟩) | (go_at_call 11; refine (known_any _).mono ?_; rintro e w3 ⟨rfl, hB3⟩))
      go_ret
      have h2 : Below w.heap.size w w2 := hB.trans (hB2.mono hsr)
      exact ⟨rfl, h2.trans (hB3.mono h2.size)⟩
end Go.Proofs.YtponficlejjafabDoor

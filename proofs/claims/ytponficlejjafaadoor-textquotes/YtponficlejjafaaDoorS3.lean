/- The outer function literal of shucklaw1.TextRunes: it compares, and at one place goes through all runes once more. -/
import Derived.Test.YtponficlejjafaaDoorS2
namespace Go.Proofs.YtponficlejjafaaDoor
set_option linter.unusedSimpArgs false
set_option linter.unusedVariables false
open Go.RowKit Go.Shelf

set_option maxRecDepth 100000 in
set_option maxHeartbeats 4000000 in
theorem out16 {Bo Bn Bw Bs Bi Bk c n m : Nat} {v sv : Value} {g : Nat → Int} {len base : Nat} {stop : Int} {x : Nat × Int} {A : World} (hg : ∀ j, 0 ≤ g j ∧ g j ≤ 255) (hlen : len ≤ 1048576) (hm : Runes g len m) (h1 : n ≤ m) (ho : Boxed A Bo 4 (.bool true)) (hn : Boxed A Bn 3 (.int .i64 (n : Int))) (hw : Boxed A Bw 32 v) (hown : A.ownsRow base 26 4 v m (rows4 g len m))
    (hs : Boxed A Bs 3 (.int .i64 stop)) (hi : Boxed A Bi 35 (.func (.func 33) #[] #[.pointer (some ⟨Bk, 0, none⟩)])) (hBk : Boxed A Bk 22 sv) (hS : Sl A c sv len g) (hc : c < A.heap.size)
    (d1 : Bo ≠ Bn) (d2 : Bw ≠ Bo) (d3 : Bs ≠ Bo) (d4 : Bi ≠ Bo) (d5 : Bk ≠ Bo) (d6 : c ≠ Bo) (d7 : Bw ≠ Bn) (d8 : Bs ≠ Bn) :
    Calls Tryd.prog 16 #[.int .i64 (x.1 : Int), .int .i32 x.2, .pointer (some ⟨Bo, 0, none⟩), .pointer (some ⟨Bn, 0, none⟩), .pointer (some ⟨Bw, 0, none⟩), .pointer (some ⟨Bs, 0, none⟩), .pointer (some ⟨Bi, 0, none⟩)] A fun e A' => e = .returned (.bool (fits g len m n x)) ∧ Fr (fun k => k = Bo ∨ k = Bn) A A' ∧ Boxed A' Bo 4 (.bool (fits g len m n x)) ∧ Boxed A' Bn 3 (.int .i64 ((n : Int) + 1)) := by
  have c1 := ho.cell
  have f1 := ho.frozen
  have cn := hn.cell
  have cw := hw.cell
  have hml := hm.le
  have HO := hide hown
  have HS := hide hS
  clear hS
  obtain ⟨xe, xr⟩ := x
  by_cases hlt : n < m
  · obtain ⟨gw, cap, rfl, hc1, hc2, hA0⟩ := want_cell (j := 0) hown hlt (by decide)
    obtain ⟨gw', cap', hv, _, _, hA1⟩ := want_cell (j := 1) hown hlt (by decide)
    cases hv
    have hA0' : A.cell? ⟨gw, n * 4, none⟩ = some (.int .i64 (posn g len n : Int)) := hA0
    have hA1' : A.cell? ⟨gw, n * 4 + 1, none⟩ = some (.int .i32 (dRune g len (posn g len n))) := hA1
    clear hA0 hA1 hown
    unfold maxLen at hc2
    have hlt' : (n : Int) < m := by omega
    by_cases he : xe = posn g len n
    · have he' : ((xe : Int) == (posn g len n : Int)) = true := by simp [he]
      by_cases hr : xr = dRune g len (posn g len n)
      · have hr' : (xr == dRune g len (posn g len n)) = true := by simp [hr]
        have HF : Hid (fits g len m n (xe, xr) = true) := by show fits g len m n (xe, xr) = true; simp [fits, hlt, he, hr]
        clear he hr
        have c2 := (hn.other d1.symm (.bool true)).cell
        have c4 := (hs.other d3 (.bool true)).cell
        have f2 := (hn.other d1.symm (.bool true)).frozen
        have c3 := ((ho.set (.bool true)).other d1 (.int .i64 ((n : Int) + 1))).cell
        by_cases hst : (n : Int) = stop
        · have hst' : ((n : Int) == stop) = true := by simp [hst]
          clear hst
          have c5 := ((hi.other d4 (.bool true)).alloc (.cells #[.int .i64 0] 3)).cell
          have sz : (A.setCell ⟨Bo, 0, none⟩ (.bool true)).heap.size = A.heap.size := by simp [World.setCell]
          have k1 : Boxed ((A.setCell ⟨Bo, 0, none⟩ (.bool true)).alloc (.cells #[.int .i64 0] 3)) Bo 4 (.bool true) := (ho.set _).alloc _
          have k2 : Boxed ((A.setCell ⟨Bo, 0, none⟩ (.bool true)).alloc (.cells #[.int .i64 0] 3)) A.heap.size 3 (.int .i64 0) := by
            have := Boxed.new (A.setCell ⟨Bo, 0, none⟩ (.bool true)) 3 (.int .i64 0)
            rw [sz] at this; exact this
          have k3 : Boxed ((A.setCell ⟨Bo, 0, none⟩ (.bool true)).alloc (.cells #[.int .i64 0] 3)) Bw 32 _ := (hw.other d2 _).alloc _
          have k4 : Boxed ((A.setCell ⟨Bo, 0, none⟩ (.bool true)).alloc (.cells #[.int .i64 0] 3)) Bk 22 sv := (hBk.other d5 _).alloc _
          have k5 : Boxed ((A.setCell ⟨Bo, 0, none⟩ (.bool true)).alloc (.cells #[.int .i64 0] 3)) Bn 3 (.int .i64 (n : Int)) := (hn.other d1.symm _).alloc _
          have F1 : Fr (fun k => k = Bo ∨ k = Bn ∨ k = A.heap.size) A ((A.setCell ⟨Bo, 0, none⟩ (.bool true)).alloc (.cells #[.int .i64 0] 3)) := ((Fr.refl _ A).setCell _ _ (.inl rfl)).alloc _
          have FF := hide (Fr.mono (S1 := fun k => k = Bo ∨ k = A.heap.size) (((Fr.refl (fun k => k = Bo) A).setCell Bo (.bool true) rfl).alloc (.cells #[.int .i64 0] 3)) (fun k _ h => .inl h))
          have HIN := hide (inner_run hg hlen hm k1 k2 k3 (ownsRow_fr (unhide HO) (unhide FF) (by rintro k hk (rfl | rfl); exact ho.not_row (by decide) (unhide HO) hk.symm; exact absurd ((unhide HO).lt _ hk).2 (Nat.lt_irrefl _))) k4 ((unhide HS).keep (fun k e => by subst e; exact (unhide FF).block k hc (by rintro (h | h) <;> omega))) (by simp; omega)
            (Nat.ne_of_lt ho.lt) d2 (Nat.ne_of_lt hw.lt) d5 (Nat.ne_of_lt hBk.lt) d6 (Nat.ne_of_lt hc))
          have lo := ho.lt
          have ln := hn.lt
          have lw := hw.lt
          have HHO := hide ho
          have HHN := hide hn
          clear ho hn hs hi hBk F1 sz
          go_enter Tryd.func16, Tryd.ntmps16
          go_wp2_with (go_at_call 33; refine (unhide HIN).mono ?_; rintro e A2 ⟨⟨u, rfl⟩, hF2, hb2, q, hq2, hqm⟩; have g1 := hb2.cell; have g2 := hq2.cell; have g3 := (boxed_fr k3 hF2 (by rintro (h | h) <;> omega)).cell; have kn := boxed_fr k5 hF2 (by rintro (h | h) <;> omega); have g4 := hb2.frozen; have g5 := (kn.other d1.symm (.bool true)).cell; have g6 := (kn.other d1.symm (.bool true)).frozen; have g7 := ((hb2.set (.bool true)).other d1 (.int .i64 ((n : Int) + 1))).cell; have HQ := hide hqm; clear hqm; obtain rfl := unhide HQ (by simp))
          go_ret
          rw [unhide HF]
          refine ⟨rfl, ?_, (hb2.set _).other d1 _, (kn.other d1.symm _).set _⟩
          have F0 : Fr (fun k => k = Bo ∨ k = Bn ∨ k = A.heap.size) A A2 := ((unhide FF).mono (fun k _ h => by rcases h with h | h; exact .inl h; exact .inr (.inr h))).trans (hF2.mono (fun k _ h => by rcases h with h | h; exact .inl h; exact .inr (.inr h)))
          exact ((F0.setCell Bo _ (.inl rfl)).setCell Bn _ (.inr (.inl rfl))).mono (fun k hk h => by rcases h with h | h | h; exact .inl h; exact .inr h; omega)
        · have hst' : ((n : Int) == stop) = false := by simp [hst]
          clear hst
          go_enter Tryd.func16, Tryd.ntmps16
          go_wp2
          go_ret
          rw [unhide HF]
          exact ⟨rfl, ((Fr.refl _ A).setCell Bo _ (.inl rfl)).setCell Bn _ (.inr rfl), (ho.set _).other d1 _, (hn.other d1.symm _).set _⟩

      · have hr' : (xr == dRune g len (posn g len n)) = false := by simp [hr]
        have HF : Hid (fits g len m n (xe, xr) = false) := by show fits g len m n (xe, xr) = false; simp [fits, hr]
        clear he hr
        have c2 := (hn.other d1.symm (.bool false)).cell
        have c4 := (hs.other d3 (.bool false)).cell
        have f2 := (hn.other d1.symm (.bool false)).frozen
        have c3 := ((ho.set (.bool false)).other d1 (.int .i64 ((n : Int) + 1))).cell
        by_cases hst : (n : Int) = stop
        · have hst' : ((n : Int) == stop) = true := by simp [hst]
          clear hst
          have c5 := ((hi.other d4 (.bool false)).alloc (.cells #[.int .i64 0] 3)).cell
          have sz : (A.setCell ⟨Bo, 0, none⟩ (.bool false)).heap.size = A.heap.size := by simp [World.setCell]
          have k1 : Boxed ((A.setCell ⟨Bo, 0, none⟩ (.bool false)).alloc (.cells #[.int .i64 0] 3)) Bo 4 (.bool false) := (ho.set _).alloc _
          have k2 : Boxed ((A.setCell ⟨Bo, 0, none⟩ (.bool false)).alloc (.cells #[.int .i64 0] 3)) A.heap.size 3 (.int .i64 0) := by
            have := Boxed.new (A.setCell ⟨Bo, 0, none⟩ (.bool false)) 3 (.int .i64 0)
            rw [sz] at this; exact this
          have k3 : Boxed ((A.setCell ⟨Bo, 0, none⟩ (.bool false)).alloc (.cells #[.int .i64 0] 3)) Bw 32 _ := (hw.other d2 _).alloc _
          have k4 : Boxed ((A.setCell ⟨Bo, 0, none⟩ (.bool false)).alloc (.cells #[.int .i64 0] 3)) Bk 22 sv := (hBk.other d5 _).alloc _
          have k5 : Boxed ((A.setCell ⟨Bo, 0, none⟩ (.bool false)).alloc (.cells #[.int .i64 0] 3)) Bn 3 (.int .i64 (n : Int)) := (hn.other d1.symm _).alloc _
          have F1 : Fr (fun k => k = Bo ∨ k = Bn ∨ k = A.heap.size) A ((A.setCell ⟨Bo, 0, none⟩ (.bool false)).alloc (.cells #[.int .i64 0] 3)) := ((Fr.refl _ A).setCell _ _ (.inl rfl)).alloc _
          have FF := hide (Fr.mono (S1 := fun k => k = Bo ∨ k = A.heap.size) (((Fr.refl (fun k => k = Bo) A).setCell Bo (.bool false) rfl).alloc (.cells #[.int .i64 0] 3)) (fun k _ h => .inl h))
          have HIN := hide (inner_run hg hlen hm k1 k2 k3 (ownsRow_fr (unhide HO) (unhide FF) (by rintro k hk (rfl | rfl); exact ho.not_row (by decide) (unhide HO) hk.symm; exact absurd ((unhide HO).lt _ hk).2 (Nat.lt_irrefl _))) k4 ((unhide HS).keep (fun k e => by subst e; exact (unhide FF).block k hc (by rintro (h | h) <;> omega))) (by simp; omega)
            (Nat.ne_of_lt ho.lt) d2 (Nat.ne_of_lt hw.lt) d5 (Nat.ne_of_lt hBk.lt) d6 (Nat.ne_of_lt hc))
          have lo := ho.lt
          have ln := hn.lt
          have lw := hw.lt
          have HHO := hide ho
          have HHN := hide hn
          clear ho hn hs hi hBk F1 sz
          go_enter Tryd.func16, Tryd.ntmps16
          go_wp2_with (go_at_call 33; refine (unhide HIN).mono ?_; rintro e A2 ⟨⟨u, rfl⟩, hF2, hb2, q, hq2, hqm⟩; have g1 := hb2.cell; have g2 := hq2.cell; have g3 := (boxed_fr k3 hF2 (by rintro (h | h) <;> omega)).cell; have kn := boxed_fr k5 hF2 (by rintro (h | h) <;> omega); have g4 := hb2.frozen; have g5 := (kn.other d1.symm (.bool false)).cell; have g6 := (kn.other d1.symm (.bool false)).frozen; have g7 := ((hb2.set (.bool false)).other d1 (.int .i64 ((n : Int) + 1))).cell; have HQ := hide hqm; clear hqm; skip)
          go_ret
          rw [unhide HF]
          refine ⟨rfl, ?_, (hb2.set _).other d1 _, (kn.other d1.symm _).set _⟩
          have F0 : Fr (fun k => k = Bo ∨ k = Bn ∨ k = A.heap.size) A A2 := ((unhide FF).mono (fun k _ h => by rcases h with h | h; exact .inl h; exact .inr (.inr h))).trans (hF2.mono (fun k _ h => by rcases h with h | h; exact .inl h; exact .inr (.inr h)))
          exact ((F0.setCell Bo _ (.inl rfl)).setCell Bn _ (.inr (.inl rfl))).mono (fun k hk h => by rcases h with h | h | h; exact .inl h; exact .inr h; omega)
        · have hst' : ((n : Int) == stop) = false := by simp [hst]
          clear hst
          go_enter Tryd.func16, Tryd.ntmps16
          go_wp2
          go_ret
          rw [unhide HF]
          exact ⟨rfl, ((Fr.refl _ A).setCell Bo _ (.inl rfl)).setCell Bn _ (.inr rfl), (ho.set _).other d1 _, (hn.other d1.symm _).set _⟩

    · have he' : ((xe : Int) == (posn g len n : Int)) = false := by simp; omega
      have HF : Hid (fits g len m n (xe, xr) = false) := by show fits g len m n (xe, xr) = false; simp [fits, he]
      clear he
      have c2 := (hn.other d1.symm (.bool false)).cell
      have c4 := (hs.other d3 (.bool false)).cell
      have f2 := (hn.other d1.symm (.bool false)).frozen
      have c3 := ((ho.set (.bool false)).other d1 (.int .i64 ((n : Int) + 1))).cell
      by_cases hst : (n : Int) = stop
      · have hst' : ((n : Int) == stop) = true := by simp [hst]
        clear hst
        have c5 := ((hi.other d4 (.bool false)).alloc (.cells #[.int .i64 0] 3)).cell
        have sz : (A.setCell ⟨Bo, 0, none⟩ (.bool false)).heap.size = A.heap.size := by simp [World.setCell]
        have k1 : Boxed ((A.setCell ⟨Bo, 0, none⟩ (.bool false)).alloc (.cells #[.int .i64 0] 3)) Bo 4 (.bool false) := (ho.set _).alloc _
        have k2 : Boxed ((A.setCell ⟨Bo, 0, none⟩ (.bool false)).alloc (.cells #[.int .i64 0] 3)) A.heap.size 3 (.int .i64 0) := by
          have := Boxed.new (A.setCell ⟨Bo, 0, none⟩ (.bool false)) 3 (.int .i64 0)
          rw [sz] at this; exact this
        have k3 : Boxed ((A.setCell ⟨Bo, 0, none⟩ (.bool false)).alloc (.cells #[.int .i64 0] 3)) Bw 32 _ := (hw.other d2 _).alloc _
        have k4 : Boxed ((A.setCell ⟨Bo, 0, none⟩ (.bool false)).alloc (.cells #[.int .i64 0] 3)) Bk 22 sv := (hBk.other d5 _).alloc _
        have k5 : Boxed ((A.setCell ⟨Bo, 0, none⟩ (.bool false)).alloc (.cells #[.int .i64 0] 3)) Bn 3 (.int .i64 (n : Int)) := (hn.other d1.symm _).alloc _
        have F1 : Fr (fun k => k = Bo ∨ k = Bn ∨ k = A.heap.size) A ((A.setCell ⟨Bo, 0, none⟩ (.bool false)).alloc (.cells #[.int .i64 0] 3)) := ((Fr.refl _ A).setCell _ _ (.inl rfl)).alloc _
        have FF := hide (Fr.mono (S1 := fun k => k = Bo ∨ k = A.heap.size) (((Fr.refl (fun k => k = Bo) A).setCell Bo (.bool false) rfl).alloc (.cells #[.int .i64 0] 3)) (fun k _ h => .inl h))
        have HIN := hide (inner_run hg hlen hm k1 k2 k3 (ownsRow_fr (unhide HO) (unhide FF) (by rintro k hk (rfl | rfl); exact ho.not_row (by decide) (unhide HO) hk.symm; exact absurd ((unhide HO).lt _ hk).2 (Nat.lt_irrefl _))) k4 ((unhide HS).keep (fun k e => by subst e; exact (unhide FF).block k hc (by rintro (h | h) <;> omega))) (by simp; omega)
          (Nat.ne_of_lt ho.lt) d2 (Nat.ne_of_lt hw.lt) d5 (Nat.ne_of_lt hBk.lt) d6 (Nat.ne_of_lt hc))
        have lo := ho.lt
        have ln := hn.lt
        have lw := hw.lt
        have HHO := hide ho
        have HHN := hide hn
        clear ho hn hs hi hBk F1 sz
        go_enter Tryd.func16, Tryd.ntmps16
        go_wp2_with (go_at_call 33; refine (unhide HIN).mono ?_; rintro e A2 ⟨⟨u, rfl⟩, hF2, hb2, q, hq2, hqm⟩; have g1 := hb2.cell; have g2 := hq2.cell; have g3 := (boxed_fr k3 hF2 (by rintro (h | h) <;> omega)).cell; have kn := boxed_fr k5 hF2 (by rintro (h | h) <;> omega); have g4 := hb2.frozen; have g5 := (kn.other d1.symm (.bool false)).cell; have g6 := (kn.other d1.symm (.bool false)).frozen; have g7 := ((hb2.set (.bool false)).other d1 (.int .i64 ((n : Int) + 1))).cell; have HQ := hide hqm; clear hqm; skip)
        go_ret
        rw [unhide HF]
        refine ⟨rfl, ?_, (hb2.set _).other d1 _, (kn.other d1.symm _).set _⟩
        have F0 : Fr (fun k => k = Bo ∨ k = Bn ∨ k = A.heap.size) A A2 := ((unhide FF).mono (fun k _ h => by rcases h with h | h; exact .inl h; exact .inr (.inr h))).trans (hF2.mono (fun k _ h => by rcases h with h | h; exact .inl h; exact .inr (.inr h)))
        exact ((F0.setCell Bo _ (.inl rfl)).setCell Bn _ (.inr (.inl rfl))).mono (fun k hk h => by rcases h with h | h | h; exact .inl h; exact .inr h; omega)
      · have hst' : ((n : Int) == stop) = false := by simp [hst]
        clear hst
        go_enter Tryd.func16, Tryd.ntmps16
        go_wp2
        go_ret
        rw [unhide HF]
        exact ⟨rfl, ((Fr.refl _ A).setCell Bo _ (.inl rfl)).setCell Bn _ (.inr rfl), (ho.set _).other d1 _, (hn.other d1.symm _).set _⟩

  · obtain ⟨ao, cap, rfl⟩ : ∃ ao cap, v = .slice ao m cap := by
      rcases hown.2 with ⟨h, h0⟩ | ⟨gw, cap, cur, h, _⟩
      · exact ⟨none, 0, by rw [h, h0]⟩
      · exact ⟨_, cap, h⟩
    have hlt' : ¬ (n : Int) < m := by omega
    have HF : Hid (fits g len m n (xe, xr) = false) := by show fits g len m n (xe, xr) = false; simp [fits, hlt]
    clear hown
    have c2 := (hn.other d1.symm (.bool false)).cell
    have c4 := (hs.other d3 (.bool false)).cell
    have f2 := (hn.other d1.symm (.bool false)).frozen
    have c3 := ((ho.set (.bool false)).other d1 (.int .i64 ((n : Int) + 1))).cell
    by_cases hst : (n : Int) = stop
    · have hst' : ((n : Int) == stop) = true := by simp [hst]
      clear hst
      have c5 := ((hi.other d4 (.bool false)).alloc (.cells #[.int .i64 0] 3)).cell
      have sz : (A.setCell ⟨Bo, 0, none⟩ (.bool false)).heap.size = A.heap.size := by simp [World.setCell]
      have k1 : Boxed ((A.setCell ⟨Bo, 0, none⟩ (.bool false)).alloc (.cells #[.int .i64 0] 3)) Bo 4 (.bool false) := (ho.set _).alloc _
      have k2 : Boxed ((A.setCell ⟨Bo, 0, none⟩ (.bool false)).alloc (.cells #[.int .i64 0] 3)) A.heap.size 3 (.int .i64 0) := by
        have := Boxed.new (A.setCell ⟨Bo, 0, none⟩ (.bool false)) 3 (.int .i64 0)
        rw [sz] at this; exact this
      have k3 : Boxed ((A.setCell ⟨Bo, 0, none⟩ (.bool false)).alloc (.cells #[.int .i64 0] 3)) Bw 32 _ := (hw.other d2 _).alloc _
      have k4 : Boxed ((A.setCell ⟨Bo, 0, none⟩ (.bool false)).alloc (.cells #[.int .i64 0] 3)) Bk 22 sv := (hBk.other d5 _).alloc _
      have k5 : Boxed ((A.setCell ⟨Bo, 0, none⟩ (.bool false)).alloc (.cells #[.int .i64 0] 3)) Bn 3 (.int .i64 (n : Int)) := (hn.other d1.symm _).alloc _
      have F1 : Fr (fun k => k = Bo ∨ k = Bn ∨ k = A.heap.size) A ((A.setCell ⟨Bo, 0, none⟩ (.bool false)).alloc (.cells #[.int .i64 0] 3)) := ((Fr.refl _ A).setCell _ _ (.inl rfl)).alloc _
      have FF := hide (Fr.mono (S1 := fun k => k = Bo ∨ k = A.heap.size) (((Fr.refl (fun k => k = Bo) A).setCell Bo (.bool false) rfl).alloc (.cells #[.int .i64 0] 3)) (fun k _ h => .inl h))
      have HIN := hide (inner_run hg hlen hm k1 k2 k3 (ownsRow_fr (unhide HO) (unhide FF) (by rintro k hk (rfl | rfl); exact ho.not_row (by decide) (unhide HO) hk.symm; exact absurd ((unhide HO).lt _ hk).2 (Nat.lt_irrefl _))) k4 ((unhide HS).keep (fun k e => by subst e; exact (unhide FF).block k hc (by rintro (h | h) <;> omega))) (by simp; omega)
        (Nat.ne_of_lt ho.lt) d2 (Nat.ne_of_lt hw.lt) d5 (Nat.ne_of_lt hBk.lt) d6 (Nat.ne_of_lt hc))
      have lo := ho.lt
      have ln := hn.lt
      have lw := hw.lt
      have HHO := hide ho
      have HHN := hide hn
      clear ho hn hs hi hBk F1 sz
      go_enter Tryd.func16, Tryd.ntmps16
      go_wp2_with (go_at_call 33; refine (unhide HIN).mono ?_; rintro e A2 ⟨⟨u, rfl⟩, hF2, hb2, q, hq2, hqm⟩; have g1 := hb2.cell; have g2 := hq2.cell; have g3 := (boxed_fr k3 hF2 (by rintro (h | h) <;> omega)).cell; have kn := boxed_fr k5 hF2 (by rintro (h | h) <;> omega); have g4 := hb2.frozen; have g5 := (kn.other d1.symm (.bool false)).cell; have g6 := (kn.other d1.symm (.bool false)).frozen; have g7 := ((hb2.set (.bool false)).other d1 (.int .i64 ((n : Int) + 1))).cell; have HQ := hide hqm; clear hqm; skip)
      go_ret
      rw [unhide HF]
      refine ⟨rfl, ?_, (hb2.set _).other d1 _, (kn.other d1.symm _).set _⟩
      have F0 : Fr (fun k => k = Bo ∨ k = Bn ∨ k = A.heap.size) A A2 := ((unhide FF).mono (fun k _ h => by rcases h with h | h; exact .inl h; exact .inr (.inr h))).trans (hF2.mono (fun k _ h => by rcases h with h | h; exact .inl h; exact .inr (.inr h)))
      exact ((F0.setCell Bo _ (.inl rfl)).setCell Bn _ (.inr (.inl rfl))).mono (fun k hk h => by rcases h with h | h | h; exact .inl h; exact .inr h; omega)
    · have hst' : ((n : Int) == stop) = false := by simp [hst]
      clear hst
      go_enter Tryd.func16, Tryd.ntmps16
      go_wp2
      go_ret
      rw [unhide HF]
      exact ⟨rfl, ((Fr.refl _ A).setCell Bo _ (.inl rfl)).setCell Bn _ (.inr rfl), (ho.set _).other d1 _, (hn.other d1.symm _).set _⟩

end Go.Proofs.YtponficlejjafaaDoor

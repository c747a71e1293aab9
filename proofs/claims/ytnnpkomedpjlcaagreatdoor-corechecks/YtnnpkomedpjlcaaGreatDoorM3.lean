/- The law's ints and trees over rows that are the same. -/
import Derived.BigQuiet
import Derived.LoopN
import Derived.Test.YtnnpkomedpjlcaaGreatDoorTK
/- The reference's Same in general. -/
namespace Go.Proofs.YtnnpkomedpjlcaaGreatDoor
set_option linter.unusedSimpArgs false
set_option linter.unusedVariables false
open Go.RowKit

theorem two_boxes {W : World} (v v' : Value) (n n' : Nat) {C : World} (hC : Below (W.heap.size + 1 + 1) ((W.alloc (.cells #[v] n)).alloc (.cells #[v'] n')) C) :
    C.cell? ⟨W.heap.size, 0, none⟩ = some v ∧ C.cell? ⟨W.heap.size + 1, 0, none⟩ = some v' := by
  have h1 : ((W.alloc (.cells #[v] n)).alloc (.cells #[v'] n')).heap[W.heap.size]? = some (.cells #[v] n) := (Below.heap_alloc _ _ _ (by simp)).trans (World.alloc_heap_new W _)
  have h2 : ((W.alloc (.cells #[v] n)).alloc (.cells #[v'] n')).heap[W.heap.size + 1]? = some (.cells #[v'] n') := by
    have := World.alloc_heap_new (W.alloc (.cells #[v] n)) (.cells #[v'] n')
    rw [World.size_alloc] at this
    exact this
  exact ⟨by rw [Lib.cell_of_heap ((hC.block _ (by omega)).trans h1)]; rfl, by rw [Lib.cell_of_heap ((hC.block _ (by omega)).trans h2)]; rfl⟩
theorem two_fives {W : World} (x0 x1 x2 x3 x4 y0 y1 y2 y3 y4 : Value) (n : Nat) {C : World} (hC : Below (W.heap.size + 1 + 1) ((W.alloc (.cells #[x0, x1, x2, x3, x4] n)).alloc (.cells #[y0, y1, y2, y3, y4] n)) C) :
    C.cell? ⟨W.heap.size, 3, none⟩ = some x3 ∧ C.cell? ⟨W.heap.size + 1, 3, none⟩ = some y3 := by
  have h1 : ((W.alloc (.cells #[x0, x1, x2, x3, x4] n)).alloc (.cells #[y0, y1, y2, y3, y4] n)).heap[W.heap.size]? = some (.cells #[x0, x1, x2, x3, x4] n) := (Below.heap_alloc _ _ _ (by simp)).trans (World.alloc_heap_new W _)
  have h2 : ((W.alloc (.cells #[x0, x1, x2, x3, x4] n)).alloc (.cells #[y0, y1, y2, y3, y4] n)).heap[W.heap.size + 1]? = some (.cells #[y0, y1, y2, y3, y4] n) := by
    have := World.alloc_heap_new (W.alloc (.cells #[x0, x1, x2, x3, x4] n)) (.cells #[y0, y1, y2, y3, y4] n)
    rw [World.size_alloc] at this
    exact this
  exact ⟨by rw [Lib.cell_of_heap ((hC.block _ (by omega)).trans h1)]; rfl, by rw [Lib.cell_of_heap ((hC.block _ (by omega)).trans h2)]; rfl⟩

end Go.Proofs.YtnnpkomedpjlcaaGreatDoor

/- The law's ints and trees over rows that are the same. -/
namespace Go.Proofs.YtnnpkomedpjlcaaGreatDoor
set_option linter.unusedSimpArgs false
set_option linter.unusedVariables false
open Go.RowKit

set_option maxRecDepth 100000 in
set_option maxHeartbeats 2000000 in
theorem ints_same (W : World) (M : Nat) (a1 a2 : Option Addr) (x : List Int) (c1 c2 : Nat) (h1 : KidsAt W M a1 x) (h2 : KidsAt W M a2 x) (hl1 : x.length ≤ 17592186044416) (hM : M ≤ W.heap.size) :
    Calls Tryz.prog 23 #[.slice a1 x.length c1, .slice a2 x.length c2] W fun e w' => e = .returned (.bool true) ∧ Below W.heap.size W w' := by
  have H1 := hide h1
  have H2 := hide h2
  clear h1 h2
  go_enter Tryz.func23, Tryz.ntmps23
  go_wp2
  go_loopw [5] (fun t wr => ∃ i : Nat, i ≤ x.length ∧ t = .int .i64 (i : Int) ∧ Below W.heap.size W wr) (fun t _ => x.length - (intOf t).toNat)
  case atStart => exact ⟨0, Nat.zero_le _, rfl, Below.refl _ _⟩
  case round =>
    obtain ⟨i, hi, rfl, hB⟩ := hrel
    by_cases hil : i < x.length
    · have hil' : (i : Int) < x.length := by omega
      have hk1 := unhide H1
      have hk2 := unhide H2
      rcases hk1 with hk1 | ⟨b1, o1, rfl, hb1, hk1⟩
      · subst hk1; simp at hil
      rcases hk2 with hk2 | ⟨b2, o2, rfl, hb2, hk2⟩
      · subst hk2; simp at hil
      have d1 := (hB.cell (p := ⟨b1, o1 + i, none⟩) (Nat.lt_of_lt_of_le hb1 hM)).trans (hk1 i hil)
      have d2 := (hB.cell (p := ⟨b2, o2 + i, none⟩) (Nat.lt_of_lt_of_le hb2 hM)).trans (hk2 i hil)
      clear hk1 hk2
      obtain ⟨k1, hk1⟩ : ∃ k, x.getD i 0 = k := ⟨_, rfl⟩
      rw [hk1] at d1 d2
      clear hk1
      have hkk : (k1 != k1) = false := by simp
      have HB := hide hB
      clear hB
      go_wp2
      go_quiet (fail)
      go_wp2
      exact ⟨⟨i + 1, by omega, by go_num, below_drewN (unhide HB) _⟩, by simp [intOf]; omega⟩
    · have hil' : ¬ (i : Int) < x.length := by omega
      go_wp2
      go_ret
      exact ⟨rfl, hB⟩

theorem two_fives4 {W : World} (x0 x1 x2 x3 x4 y0 y1 y2 y3 y4 : Value) (n : Nat) {C : World} (hC : Below (W.heap.size + 1 + 1) ((W.alloc (.cells #[x0, x1, x2, x3, x4] n)).alloc (.cells #[y0, y1, y2, y3, y4] n)) C) :
    C.cell? ⟨W.heap.size, 0, none⟩ = some x0 ∧ C.cell? ⟨W.heap.size, 4, none⟩ = some x4 ∧ C.cell? ⟨W.heap.size + 1, 4, none⟩ = some y4 := by
  have h1 : ((W.alloc (.cells #[x0, x1, x2, x3, x4] n)).alloc (.cells #[y0, y1, y2, y3, y4] n)).heap[W.heap.size]? = some (.cells #[x0, x1, x2, x3, x4] n) := (Below.heap_alloc _ _ _ (by simp)).trans (World.alloc_heap_new W _)
  have h2 : ((W.alloc (.cells #[x0, x1, x2, x3, x4] n)).alloc (.cells #[y0, y1, y2, y3, y4] n)).heap[W.heap.size + 1]? = some (.cells #[y0, y1, y2, y3, y4] n) := by
    have := World.alloc_heap_new (W.alloc (.cells #[x0, x1, x2, x3, x4] n)) (.cells #[y0, y1, y2, y3, y4] n)
    rw [World.size_alloc] at this
    exact this
  exact ⟨by rw [Lib.cell_of_heap ((hC.block _ (by omega)).trans h1)]; rfl, by rw [Lib.cell_of_heap ((hC.block _ (by omega)).trans h1)]; rfl, by rw [Lib.cell_of_heap ((hC.block _ (by omega)).trans h2)]; rfl⟩

set_option maxRecDepth 100000 in
set_option maxHeartbeats 4000000 in
theorem trees_same (W : World) (M : Nat) (v v' : Value) (l : List Nd) (hN : Nodes W M v l) (hN' : Nodes W M v' l) (hM : M ≤ W.heap.size) :
    Calls Tryz.prog 14 #[.agg #[v], .agg #[v']] W fun e w' => e = .returned (.bool true) ∧ Below W.heap.size W w' := by
  have HN := hide hN
  have HN' := hide hN'
  have hl1 := hN.1
  obtain ⟨a, cap, rfl, _, _⟩ := hN.len
  obtain ⟨a', cap', rfl, _, _⟩ := hN'.len
  clear hN hN'
  have HB0 := hide (((Below.refl W.heap.size W).alloc (Nat.le_refl _) (.cells #[.slice a l.length cap] 24)).alloc (by simp) (.cells #[.slice a' l.length cap'] 24))
  go_enter Tryz.func14, Tryz.ntmps14
  go_wp2
  go_loopw [5] (fun t wr => ∃ i : Nat, i ≤ l.length ∧ t = .int .i64 (i : Int) ∧ Below (W.heap.size + 1 + 1) ((W.alloc (.cells #[.slice a l.length cap] 24)).alloc (.cells #[.slice a' l.length cap'] 24)) wr) (fun t _ => l.length - (intOf t).toNat)
  case atStart => exact ⟨0, Nat.zero_le _, rfl, Below.refl _ _⟩
  case round =>
    obtain ⟨w0, hw0⟩ : ∃ w0, w0 = wr := ⟨_, rfl⟩
    subst hw0
    obtain ⟨i, hi, rfl, hBr⟩ := hrel
    obtain ⟨cx, cy⟩ := two_boxes _ _ _ _ hBr
    have hwr := hBr.size
    simp only [World.size_alloc] at hwr
    have hs1 : W.heap.size < w0.heap.size := by omega
    have hs2 : W.heap.size + 1 < w0.heap.size := by omega
    have hB : Below W.heap.size W w0 := (unhide HB0).trans (hBr.mono (by omega))
    have HBR := hide hBr
    clear hBr
    by_cases hil : i < l.length
    · have hil' : (i : Int) < l.length := by omega
      obtain ⟨b, o, cap0, ka, kc, hv, _, _, hb, d0, d1, d2, d3, d4, _, _, hK⟩ := ((unhide HN).keep hB hM).at hil
      obtain ⟨b', o', cap0', ka', kc', hv', _, _, hb', e0, e1, e2, e3, e4, _, _, hK'⟩ := ((unhide HN').keep hB hM).at hil
      cases hv
      cases hv'
      have hkl := ((unhide HN).2.1 i hil).2
      have hbl : b < w0.heap.size := by omega
      have hbl' : b' < w0.heap.size := by omega
      obtain ⟨x, hx⟩ : ∃ x, nd l i = x := ⟨_, rfl⟩
      rw [hx] at d0 d1 d2 d3 d4 hK hkl e0 e1 e2 e3 e4 hK'
      clear hx
      have HBE : Hid (∀ (o1 o2 : Obj) C, Below w0.heap.size ((w0.alloc o1).alloc o2) C → Below w0.heap.size w0 C) := fun o1 o2 C h => (((Below.refl w0.heap.size w0).alloc (Nat.le_refl _) o1).alloc (by simp) o2).trans h
      have hM0 : M ≤ w0.heap.size := Nat.le_trans hM hB.size
      have g1' : (x.kind != x.kind) = false := by simp
      have g2' : (x.text.toList != x.text.toList) = false := by simp
      have g3' : (x.num != x.num) = false := by simp
      have g4' : (x.at' != x.at') = false := by simp
      have HK : Hid (∀ C, Below w0.heap.size w0 C → Calls Tryz.prog 23 #[.slice ka x.kids.length kc, .slice ka' x.kids.length kc'] C fun e w' => e = .returned (.bool true) ∧ Below C.heap.size C w') := fun C hC =>
        ints_same C M ka ka' x.kids kc kc' (hK.keep hC hM0) (hK'.keep hC hM0) hkl (Nat.le_trans hM0 hC.size)
      clear hK hK'
      go_wp2_with (go_at_call 23; refine (unhide HK _ (unhide HBE _ _ _ (Below.refl _ _))).mono ?_; rintro e w5 ⟨rfl, hB5⟩; obtain ⟨q0, q4, q5⟩ := two_fives4 _ _ _ _ _ _ _ _ _ _ _ (hB5.mono (by simp)))
      exact ⟨⟨i + 1, by omega, by go_num, (unhide HBR).trans ((((Below.refl w0.heap.size w0).alloc (Nat.le_refl _) _).alloc (by simp) _).mono (by omega) |>.trans (hB5.mono (by simp; omega)))⟩, by simp [intOf]; omega⟩
    · have hil' : ¬ (i : Int) < l.length := by omega
      go_wp2
      go_ret
      exact ⟨rfl, hB⟩
end Go.Proofs.YtnnpkomedpjlcaaGreatDoor

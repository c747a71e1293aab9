/- Merged: M3, M5, M6, BK, K6, KC. -/
import Derived.BigQuiet
import Derived.ChangeOld
import Derived.Deep.AppendLies
import Derived.Deep.DrawnRows
import Derived.Deep.QuietTactic
import Derived.Deep.RegionHeld3
import Derived.Deep.RegionLaw
import Derived.LaidMore
import Derived.LoopN
import Derived.OpenShut
import Derived.OwnWalk
import Derived.ProofKit
import Derived.ShutString
import Derived.SizedLaws
import Derived.Stop.Joined
import Derived.WalkSmall
import Derived.Test.YtnnpkomedpjlcaaGreatDoorG7
import Derived.Test.YtnnpkomedpjlcaaGreatDoorK1
import Derived.Test.YtnnpkomedpjlcaaGreatDoorKY
import Derived.Test.YtnnpkomedpjlcaaGreatDoorKZ
import Derived.Test.YtnnpkomedpjlcaaGreatDoorM1
import Derived.Test.YtnnpkomedpjlcaaGreatDoorM4
import Derived.Test.YtnnpkomedpjlcaaGreatDoorTK
import Derived.Test.YtnnpkomedpjlcaaGreatDoorTie
/- The law's ints and trees over rows that are the same. -/
/- The reference's Same in general. -/
namespace Go.Proofs.YtnnpkomedpjlcaaGreatDoor
set_option linter.unusedSimpArgs false
set_option linter.unusedVariables false
open Go.RowKit

theorem two_boxes {W : World} (v v' : Value) (n n' : Nat) {C : World} (hC : Below (W.heap.size + 1 + 1) ((W.alloc (.cells #[v] n)).alloc (.cells #[v'] n')) C) :
    C.cell? ⟨W.heap.size, 0, none⟩ = some v ∧ C.cell? ⟨W.heap.size + 1, 0, none⟩ = some v' := by
  have h1 : ((W.alloc (.cells #[v] n)).alloc (.cells #[v'] n')).heap[W.heap.size]? = some (.cells #[v] n) := (Below.heap_alloc _ _ _ (by simp)).trans (World.alloc_heap_new W _)
  have h2 : ((W.alloc (.cells #[v] n)).alloc (.cells #[v'] n')).heap[W.heap.size + 1]? = some (.cells #[v'] n') := by
    have := World.alloc_heap_new (W.alloc (.cells #[v] n)) (.cells #[v'] n')
    rw [World.size_alloc] at this
    exact this
  exact ⟨by rw [Lib.cell_of_heap ((hC.block _ (by omega)).trans h1)]; rfl, by rw [Lib.cell_of_heap ((hC.block _ (by omega)).trans h2)]; rfl⟩
theorem two_fives {W : World} (x0 x1 x2 x3 x4 y0 y1 y2 y3 y4 : Value) (n : Nat) {C : World} (hC : Below (W.heap.size + 1 + 1) ((W.alloc (.cells #[x0, x1, x2, x3, x4] n)).alloc (.cells #[y0, y1, y2, y3, y4] n)) C) :
    C.cell? ⟨W.heap.size, 3, none⟩ = some x3 ∧ C.cell? ⟨W.heap.size + 1, 3, none⟩ = some y3 := by
  have h1 : ((W.alloc (.cells #[x0, x1, x2, x3, x4] n)).alloc (.cells #[y0, y1, y2, y3, y4] n)).heap[W.heap.size]? = some (.cells #[x0, x1, x2, x3, x4] n) := (Below.heap_alloc _ _ _ (by simp)).trans (World.alloc_heap_new W _)
  have h2 : ((W.alloc (.cells #[x0, x1, x2, x3, x4] n)).alloc (.cells #[y0, y1, y2, y3, y4] n)).heap[W.heap.size + 1]? = some (.cells #[y0, y1, y2, y3, y4] n) := by
    have := World.alloc_heap_new (W.alloc (.cells #[x0, x1, x2, x3, x4] n)) (.cells #[y0, y1, y2, y3, y4] n)
    rw [World.size_alloc] at this
    exact this
  exact ⟨by rw [Lib.cell_of_heap ((hC.block _ (by omega)).trans h1)]; rfl, by rw [Lib.cell_of_heap ((hC.block _ (by omega)).trans h2)]; rfl⟩

end Go.Proofs.YtnnpkomedpjlcaaGreatDoor

/- The law's ints and trees over rows that are the same. -/
namespace Go.Proofs.YtnnpkomedpjlcaaGreatDoor
set_option linter.unusedSimpArgs false
set_option linter.unusedVariables false
open Go.RowKit

set_option maxRecDepth 100000 in
set_option maxHeartbeats 2000000 in
theorem ints_same (W : World) (M : Nat) (a1 a2 : Option Addr) (x : List Int) (c1 c2 : Nat) (h1 : KidsAt W M a1 x) (h2 : KidsAt W M a2 x) (hl1 : x.length ≤ 17592186044416) (hM : M ≤ W.heap.size) :
    Calls Tryz.prog 23 #[.slice a1 x.length c1, .slice a2 x.length c2] W fun e w' => e = .returned (.bool true) ∧ Below W.heap.size W w' := by
  have H1 := hide h1
  have H2 := hide h2
  clear h1 h2
  go_enter Tryz.func23, Tryz.ntmps23
  go_wp2
  go_loopw [5] (fun t wr => ∃ i : Nat, i ≤ x.length ∧ t = .int .i64 (i : Int) ∧ Below W.heap.size W wr) (fun t _ => x.length - (intOf t).toNat)
  case atStart => exact ⟨0, Nat.zero_le _, rfl, Below.refl _ _⟩
  case round =>
    obtain ⟨i, hi, rfl, hB⟩ := hrel
    by_cases hil : i < x.length
    · have hil' : (i : Int) < x.length := by omega
      have hk1 := unhide H1
      have hk2 := unhide H2
      rcases hk1 with hk1 | ⟨b1, o1, rfl, hb1, hk1⟩
      · subst hk1; simp at hil
      rcases hk2 with hk2 | ⟨b2, o2, rfl, hb2, hk2⟩
      · subst hk2; simp at hil
      have d1 := (hB.cell (p := ⟨b1, o1 + i, none⟩) (Nat.lt_of_lt_of_le hb1 hM)).trans (hk1 i hil)
      have d2 := (hB.cell (p := ⟨b2, o2 + i, none⟩) (Nat.lt_of_lt_of_le hb2 hM)).trans (hk2 i hil)
      clear hk1 hk2
      obtain ⟨k1, hk1⟩ : ∃ k, x.getD i 0 = k := ⟨_, rfl⟩
      rw [hk1] at d1 d2
      clear hk1
      have hkk : (k1 != k1) = false := by simp
      have HB := hide hB
      clear hB
      go_wp2
      go_quiet (fail)
      go_wp2
      exact ⟨⟨i + 1, by omega, by go_num, below_drewN (unhide HB) _⟩, by simp [intOf]; omega⟩
    · have hil' : ¬ (i : Int) < x.length := by omega
      go_wp2
      go_ret
      exact ⟨rfl, hB⟩

theorem two_fives4 {W : World} (x0 x1 x2 x3 x4 y0 y1 y2 y3 y4 : Value) (n : Nat) {C : World} (hC : Below (W.heap.size + 1 + 1) ((W.alloc (.cells #[x0, x1, x2, x3, x4] n)).alloc (.cells #[y0, y1, y2, y3, y4] n)) C) :
    C.cell? ⟨W.heap.size, 0, none⟩ = some x0 ∧ C.cell? ⟨W.heap.size, 4, none⟩ = some x4 ∧ C.cell? ⟨W.heap.size + 1, 4, none⟩ = some y4 := by
  have h1 : ((W.alloc (.cells #[x0, x1, x2, x3, x4] n)).alloc (.cells #[y0, y1, y2, y3, y4] n)).heap[W.heap.size]? = some (.cells #[x0, x1, x2, x3, x4] n) := (Below.heap_alloc _ _ _ (by simp)).trans (World.alloc_heap_new W _)
  have h2 : ((W.alloc (.cells #[x0, x1, x2, x3, x4] n)).alloc (.cells #[y0, y1, y2, y3, y4] n)).heap[W.heap.size + 1]? = some (.cells #[y0, y1, y2, y3, y4] n) := by
    have := World.alloc_heap_new (W.alloc (.cells #[x0, x1, x2, x3, x4] n)) (.cells #[y0, y1, y2, y3, y4] n)
    rw [World.size_alloc] at this
    exact this
  exact ⟨by rw [Lib.cell_of_heap ((hC.block _ (by omega)).trans h1)]; rfl, by rw [Lib.cell_of_heap ((hC.block _ (by omega)).trans h1)]; rfl, by rw [Lib.cell_of_heap ((hC.block _ (by omega)).trans h2)]; rfl⟩

set_option maxRecDepth 100000 in
set_option maxHeartbeats 4000000 in
theorem trees_same (W : World) (M : Nat) (v v' : Value) (l : List Nd) (hN : Nodes W M v l) (hN' : Nodes W M v' l) (hM : M ≤ W.heap.size) :
    Calls Tryz.prog 14 #[.agg #[v], .agg #[v']] W fun e w' => e = .returned (.bool true) ∧ Below W.heap.size W w' := by
  have HN := hide hN
  have HN' := hide hN'
  have hl1 := hN.1
  obtain ⟨a, cap, rfl, _, _⟩ := hN.len
  obtain ⟨a', cap', rfl, _, _⟩ := hN'.len
  clear hN hN'
  have HB0 := hide (((Below.refl W.heap.size W).alloc (Nat.le_refl _) (.cells #[.slice a l.length cap] 24)).alloc (by simp) (.cells #[.slice a' l.length cap'] 24))
  go_enter Tryz.func14, Tryz.ntmps14
  go_wp2
  go_loopw [5] (fun t wr => ∃ i : Nat, i ≤ l.length ∧ t = .int .i64 (i : Int) ∧ Below (W.heap.size + 1 + 1) ((W.alloc (.cells #[.slice a l.length cap] 24)).alloc (.cells #[.slice a' l.length cap'] 24)) wr) (fun t _ => l.length - (intOf t).toNat)
  case atStart => exact ⟨0, Nat.zero_le _, rfl, Below.refl _ _⟩
  case round =>
    obtain ⟨w0, hw0⟩ : ∃ w0, w0 = wr := ⟨_, rfl⟩
    subst hw0
    obtain ⟨i, hi, rfl, hBr⟩ := hrel
    obtain ⟨cx, cy⟩ := two_boxes _ _ _ _ hBr
    have hwr := hBr.size
    simp only [World.size_alloc] at hwr
    have hs1 : W.heap.size < w0.heap.size := by omega
    have hs2 : W.heap.size + 1 < w0.heap.size := by omega
    have hB : Below W.heap.size W w0 := (unhide HB0).trans (hBr.mono (by omega))
    have HBR := hide hBr
    clear hBr
    by_cases hil : i < l.length
    · have hil' : (i : Int) < l.length := by omega
      obtain ⟨b, o, cap0, ka, kc, hv, _, _, hb, d0, d1, d2, d3, d4, _, _, hK⟩ := ((unhide HN).keep hB hM).at hil
      obtain ⟨b', o', cap0', ka', kc', hv', _, _, hb', e0, e1, e2, e3, e4, _, _, hK'⟩ := ((unhide HN').keep hB hM).at hil
      cases hv
      cases hv'
      have hkl := ((unhide HN).2.1 i hil).2
      have hbl : b < w0.heap.size := by omega
      have hbl' : b' < w0.heap.size := by omega
      obtain ⟨x, hx⟩ : ∃ x, nd l i = x := ⟨_, rfl⟩
      rw [hx] at d0 d1 d2 d3 d4 hK hkl e0 e1 e2 e3 e4 hK'
      clear hx
      have HBE : Hid (∀ (o1 o2 : Obj) C, Below w0.heap.size ((w0.alloc o1).alloc o2) C → Below w0.heap.size w0 C) := fun o1 o2 C h => (((Below.refl w0.heap.size w0).alloc (Nat.le_refl _) o1).alloc (by simp) o2).trans h
      have hM0 : M ≤ w0.heap.size := Nat.le_trans hM hB.size
      have g1' : (x.kind != x.kind) = false := by simp
      have g2' : (x.text.toList != x.text.toList) = false := by simp
      have g3' : (x.num != x.num) = false := by simp
      have g4' : (x.at' != x.at') = false := by simp
      have HK : Hid (∀ C, Below w0.heap.size w0 C → Calls Tryz.prog 23 #[.slice ka x.kids.length kc, .slice ka' x.kids.length kc'] C fun e w' => e = .returned (.bool true) ∧ Below C.heap.size C w') := fun C hC =>
        ints_same C M ka ka' x.kids kc kc' (hK.keep hC hM0) (hK'.keep hC hM0) hkl (Nat.le_trans hM0 hC.size)
      clear hK hK'
      go_wp2_with (go_at_call 23; refine (unhide HK _ (unhide HBE _ _ _ (Below.refl _ _))).mono ?_; rintro e w5 ⟨rfl, hB5⟩; obtain ⟨q0, q4, q5⟩ := two_fives4 _ _ _ _ _ _ _ _ _ _ _ (hB5.mono (by simp)))
      exact ⟨⟨i + 1, by omega, by go_num, (unhide HBR).trans ((((Below.refl w0.heap.size w0).alloc (Nat.le_refl _) _).alloc (by simp) _).mono (by omega) |>.trans (hB5.mono (by simp; omega)))⟩, by simp [intOf]; omega⟩
    · have hil' : ¬ (i : Int) < l.length := by omega
      go_wp2
      go_ret
      exact ⟨rfl, hB⟩
end Go.Proofs.YtnnpkomedpjlcaaGreatDoor

/- Nodes as long as a call reaches; a tree that came in, opened. -/
/- Rows of nodes as long as a call can reach; shucklaw3.great over them. -/
namespace Go.Proofs.YtnnpkomedpjlcaaGreatDoor
set_option linter.unusedSimpArgs false
set_option linter.unusedVariables false
open Go.RowKit Go.Shelf

/-- A row of nodes, its texts as long as a call can reach. -/
def NodesR (W : World) (M : Nat) (v : Value) (l : List Nd) : Prop :=
  l.length ≤ 2199023255552 ∧ (∀ j, j < l.length → (nd l j).text.size ≤ 140737488351232 ∧ (nd l j).kids.length ≤ 17592186044416) ∧
  ∃ a cap, v = .slice a l.length cap ∧ l.length ≤ cap ∧ cap ≤ maxLen ∧ (l = [] ∨ ∃ b o, a = some ⟨b, o, none⟩ ∧ b < M ∧ ∀ j, j < l.length → NdAt W M b (o + j * 5) (nd l j))
theorem NodesR.keep {W W' : World} {M N : Nat} {v : Value} {l : List Nd} (h : NodesR W M v l) (hB : Below N W W') (hn : M ≤ N) : NodesR W' M v l := by
  obtain ⟨hl, hs, a, cap, hv, hc, hm, h⟩ := h
  refine ⟨hl, hs, a, cap, hv, hc, hm, ?_⟩
  rcases h with h | ⟨b, o, ha, hb, h⟩
  · exact .inl h
  · exact .inr ⟨b, o, ha, hb, fun j hj => (h j hj).keep hb hB hn⟩
theorem NodesR.len {W : World} {M : Nat} {v : Value} {l : List Nd} (h : NodesR W M v l) : ∃ a cap, v = .slice a l.length cap ∧ l.length ≤ cap ∧ cap ≤ maxLen := by
  obtain ⟨_, _, a, cap, hv, hc, hm, _⟩ := h
  exact ⟨a, cap, hv, hc, hm⟩
theorem NodesR.at {W : World} {M : Nat} {v : Value} {l : List Nd} (h : NodesR W M v l) {n : Nat} (hn : n < l.length) :
    ∃ b o cap ka kc, v = .slice (some ⟨b, o, none⟩) l.length cap ∧ l.length ≤ cap ∧ cap ≤ maxLen ∧ b < M ∧ W.cell? ⟨b, o + n * 5, none⟩ = some (.int .i64 (nd l n).kind) ∧ W.cell? ⟨b, o + n * 5 + 1, none⟩ = some (.string (nd l n).text) ∧ W.cell? ⟨b, o + n * 5 + 2, none⟩ = some (.int .i64 (nd l n).num) ∧
      W.cell? ⟨b, o + n * 5 + 3, none⟩ = some (.slice ka (nd l n).kids.length kc) ∧ W.cell? ⟨b, o + n * 5 + 4, none⟩ = some (.int .i64 (nd l n).at') ∧ (nd l n).kids.length ≤ kc ∧ kc ≤ maxLen ∧ KidsAt W M ka (nd l n).kids := by
  obtain ⟨hl, hs, a, cap, rfl, hc, hm, h⟩ := h
  rcases h with rfl | ⟨b, o, rfl, hb, h⟩
  · simp at hn
  · obtain ⟨h0, h1, h2, ⟨ka, kc, h3, hkc, hkm, hk⟩, h4⟩ := h n hn
    exact ⟨b, o, cap, ka, kc, rfl, hc, hm, hb, h0, h1, h2, h3, h4, hkc, hkm, hk⟩
/-- What is not great is a row of nodes. -/
theorem NodesR.nodes {W : World} {M : Nat} {v : Value} {l : List Nd} (h : NodesR W M v l) (hs : szN l l.length ≤ 3000) : Nodes W M v l :=
  ⟨h.1, fun j hj => by have := szN_at l hj; exact ⟨by omega, by omega⟩, h.2.2⟩

set_option maxRecDepth 100000 in
set_option maxHeartbeats 2000000 in
theorem great_reach (W : World) (M : Nat) (v : Value) (l : List Nd) (hN : NodesR W M v l) (hM : M ≤ W.heap.size) :
    Calls Tryz.prog 6 #[.agg #[v]] W fun e w' => e = .returned (.bool (decide (3000 < szN l l.length))) ∧ Below W.heap.size W w' := by
  have HN := hide hN
  have hl1 := hN.1
  obtain ⟨a, cap, rfl, _, _⟩ := hN.len
  clear hN
  have HB0 := hide ((Below.refl W.heap.size W).alloc (Nat.le_refl _) (.cells #[.slice a l.length cap] 24))
  go_enter Tryz.func6, Tryz.ntmps6
  go_wp2
  go_loopw [3, 4] (fun t3 t wr => ∃ (i n : Nat), i ≤ l.length ∧ t = .int .i64 (i : Int) ∧ t3 = .int .i64 (n : Int) ∧ n = szN l i ∧ n ≤ 200000000000000 ∧ Below (W.heap.size + 1) (W.alloc (.cells #[.slice a l.length cap] 24)) wr) (fun _ t _ => l.length - (intOf t).toNat)
  case atStart => exact ⟨0, 0, Nat.zero_le _, rfl, rfl, rfl, by omega, Below.refl _ _⟩
  case round =>
    obtain ⟨i, n, hi, rfl, rfl, hn, hnb, hBr⟩ := hrel
    have cx := one_box _ _ hBr
    have hwr := hBr.size
    simp only [World.size_alloc] at hwr
    have hs1 : W.heap.size < wr.heap.size := by omega
    have hB : Below W.heap.size W wr := (unhide HB0).trans (hBr.mono (by omega))
    have HBR := hide hBr
    have HNN := hide hn
    clear hBr hn
    by_cases hil : i < l.length
    · have hil' : (i : Int) < l.length := by omega
      by_cases h3 : n ≤ 3000
      · have h3' : (n : Int) ≤ 3000 := by omega
        obtain ⟨b, o, cap0, ka, kc, hv, _, _, hb, d0, d1, d2, d3, d4, _, _, _⟩ := ((unhide HN).keep hB hM).at hil
        cases hv
        have hkl := ((unhide HN).2.1 i hil).2
        have htl := ((unhide HN).2.1 i hil).1
        have hbl : b < wr.heap.size := by omega
        obtain ⟨x, hx⟩ : ∃ x, nd l i = x := ⟨_, rfl⟩
        rw [hx] at d0 d1 d2 d3 d4 hkl htl
        have HX := hide hx
        clear hx
        go_wp2
        go_quiet (fail)
        go_wp2
        refine ⟨⟨i + 1, n + 1 + x.kids.length + x.text.size, by omega, by go_num, by go_num, ?_, by omega, below_drewN (unhide HBR) _⟩, by simp [intOf]; omega⟩
        show _ = szN l i + 1 + (nd l i).kids.length + (nd l i).text.size
        rw [unhide HX, unhide HNN]
      · have h3' : ¬ (n : Int) ≤ 3000 := by omega
        have h3'' : (3000 : Int) < n := by omega
        have HF : Hid (decide (3000 < szN l l.length) = true) := decide_eq_true (by have := szN_le l hi; have := unhide HNN; omega)
        go_wp2
        go_ret
        exact ⟨show Ending.returned (.bool true) = _ from ret_b (unhide HF).symm, hB⟩
    · have hil' : ¬ (i : Int) < l.length := by omega
      obtain rfl : i = l.length := by omega
      have HF : Hid (decide (3000 < szN l l.length) = decide ((3000 : Int) < n)) := by
        show decide (3000 < szN l l.length) = decide ((3000 : Int) < n)
        rw [decide_eq_decide, ← unhide HNN]; omega
      go_wp2
      go_ret
      exact ⟨ret_b (unhide HF).symm, hB⟩
end Go.Proofs.YtnnpkomedpjlcaaGreatDoor

/- What a law is told of a tree that came in. -/
namespace Go.Proofs.YtnnpkomedpjlcaaGreatDoor
set_option linter.unusedSimpArgs false
set_option linter.unusedVariables false
open Go.ChangeShapes Go.WideShapes Go.ChangeAt Go.RowKit

theorem ex_list {α : Type} (d : α) {P : Nat → α → Prop} : ∀ n, (∀ j, j < n → ∃ k, P j k) → ∃ ks : List α, ks.length = n ∧ ∀ j, j < n → P j (ks.getD j d)
  | 0, _ => ⟨[], rfl, fun j h => by omega⟩
  | n + 1, h => by
    obtain ⟨ks, hl, hk⟩ := ex_list d n fun j hj => h j (by omega)
    obtain ⟨k, hkn⟩ := h n (by omega)
    refine ⟨ks ++ [k], by simp [hl], fun j hj => ?_⟩
    by_cases e : j = n
    · subst e
      rw [List.getD_eq_getElem?_getD, List.getElem?_append_right (by omega), hl]
      simpa using hkn
    · have := hk j (by omega)
      rw [List.getD_eq_getElem?_getD, List.getElem?_append_left (by omega), ← List.getD_eq_getElem?_getD]
      exact this

/-- What a call can reach. -/
def Light {H : Type} (t : TypeId) (d : DataW H) : Prop := ∀ n ∈ d.weights Tryz.prog t, n ≤ 140737488351232

set_option maxRecDepth 100000 in
theorem kids_of_trod {H : Type} {enc : TypeId × Value → H} {W : World} {base : Nat} {sp : Nat → Bool} {held : Bool} {fuel : Nat} {v : Value} {x : DataW H × List MemPlace} (hf : DataW.trod enc Tryz.prog W base sp held fuel 39 [v] = some x) (hL : Light 39 x.1) :
    ∃ (ks : List Int) (a : Option Addr) (c : Nat), v = .slice a ks.length c ∧ ks.length ≤ c ∧ c ≤ maxLen ∧ ks.length ≤ 17592186044416 ∧ KidsAt W W.heap.size a ks := by
  have c3 : Tryz.prog.cellsOf 3 = 1 := by kernel_rfl
  have b3 : Tryz.prog.bytesOf 3 = 8 := by kernel_rfl
  rcases DataW.trod_slice Tryz.underlying39 hf with ⟨h0, _⟩ | ⟨a, len, cap, elems, rest, n, _, hcs, hx, _, hl, hm, hlen, hel, _, _⟩
  · simp at h0
    exact ⟨[], none, 0, h0, Nat.le_refl _, Nat.zero_le _, Nat.zero_le _, .inl rfl⟩
  · simp at hcs
    subst hcs
    have hw : (elems.length + rest.length) * 8 ≤ 140737488351232 := by
      refine hL _ ?_
      rw [hx]
      simp [DataW.weights, Tryz.underlying39, b3]
    rw [c3] at hel
    have raw : ∀ j, j < len → ∃ k : Int, W.cells? base (a.add (j * 1)) 1 = some [.int .i64 k] := by
      intro j hj
      have h1 := hel j hj
      rw [List.getElem?_eq_getElem (by omega), Option.bind_eq_some_iff] at h1
      obtain ⟨cs, h2, h3⟩ := h1
      obtain ⟨k, rfl, _⟩ := DataW.trod_int Tryz.underlying3 h3
      exact ⟨k, h2⟩
    obtain ⟨ks, hkl, hk⟩ := ex_list (0 : Int) len raw
    subst hkl
    refine ⟨ks, some a, cap, rfl, hl, hm, by omega, ?_⟩
    by_cases h0 : ks = []
    · exact .inl h0
    have hpos : 0 < ks.length := List.length_pos_iff.2 h0
    obtain ⟨b, off, spot⟩ := a
    have hspot : spot = none := by
      simpa [Addr.add] using World.cell?_spot ((World.cells?_some (hk 0 hpos)).2.2 0 (by simp))
    subst hspot
    have hb : b < W.heap.size := by simpa [Addr.add] using World.cells?_block (hk 0 hpos) (by omega)
    refine .inr ⟨b, off, rfl, hb, fun j hj => ?_⟩
    have q := (World.cells?_some (hk j hj)).2.2 0 (by simp)
    rw [Addr.add_lit, Addr.add_lit] at q
    simpa using q

set_option maxRecDepth 100000 in
theorem node_of_trod {H : Type} {enc : TypeId × Value → H} {W : World} {base : Nat} {sp : Nat → Bool} {held : Bool} {fuel : Nat} {cs : List Value} {x : DataW H × List MemPlace} (hf : DataW.trod enc Tryz.prog W base sp held fuel 41 cs = some x) (hL : Light 41 x.1) :
    ∃ (y : Nd) (a : Option Addr) (c : Nat), cs = [.int .i64 y.kind, .string y.text, .int .i64 y.num, .slice a y.kids.length c, .int .i64 y.at'] ∧ y.kids.length ≤ c ∧ c ≤ maxLen ∧ y.kids.length ≤ 17592186044416 ∧ y.text.size ≤ 140737488351232 ∧ KidsAt W W.heap.size a y.kids := by
  obtain ⟨xs, n, _, hx, hl, hlen, hfs⟩ := DataW.trod_struct Tryz.underlying41 hf
  have c29 : Tryz.prog.cellsOf 41 = 5 := by kernel_rfl
  have c3 : Tryz.prog.cellsOf 3 = 1 := by kernel_rfl
  have c9 : Tryz.prog.cellsOf 9 = 1 := by kernel_rfl
  have c27 : Tryz.prog.cellsOf 39 = 1 := by kernel_rfl
  rw [c29] at hl
  match cs, hl with
  | [v0, v1, v2, v3, v4], _ =>
    have f0 := hfs 0 _ rfl
    have f1 := hfs 1 _ rfl
    have f2 := hfs 2 _ rfl
    have f3 := hfs 3 _ rfl
    have f4 := hfs 4 _ rfl
    match xs, hlen with
    | [y0, y1, y2, y3, y4], _ =>
      simp at f0 f1 f2 f3 f4
      rw [c3] at f0 f2 f4
      rw [c9] at f1
      rw [c27] at f3
      obtain ⟨k, e0, g0, _⟩ := DataW.trod_int Tryz.underlying3 f0
      obtain ⟨s, e1, g1, _⟩ := DataW.trod_string Tryz.underlying9 f1
      obtain ⟨nm, e2, g2, _⟩ := DataW.trod_int Tryz.underlying3 f2
      obtain ⟨at', e4, g4, _⟩ := DataW.trod_int Tryz.underlying3 f4
      have hL3 : Light 39 y3.1 := fun m hm => hL m (by rw [hx]; simp [DataW.weights, Tryz.underlying41, DataW.weightsEach]; exact .inr (.inr (.inr (.inl hm))))
      have hL1 : Light 9 y1.1 := fun m hm => hL m (by rw [hx]; simp [DataW.weights, Tryz.underlying41, DataW.weightsEach]; exact .inr (.inl hm))
      simp at f3
      obtain ⟨ks, a, c, e3, k1, k2, k3, k4⟩ := kids_of_trod f3 hL3
      simp at e0 e1 e2 e4
      subst e0 e1 e2 e3 e4
      refine ⟨⟨k, s, nm, ks, at'⟩, a, c, rfl, k1, k2, k3, ?_, k4⟩
      have := hL1 s.data.toList.length (by rw [g1]; simp [DataW.weights])
      rw [Lib.size_eq]
      exact this
end Go.Proofs.YtnnpkomedpjlcaaGreatDoor

/- A tree that came in is a row of nodes. -/
namespace Go.Proofs.YtnnpkomedpjlcaaGreatDoor
set_option linter.unusedSimpArgs false
set_option linter.unusedVariables false
open Go.ChangeShapes Go.WideShapes Go.ChangeAt Go.RowKit

theorem light_all {H : Type} {e : TypeId} {l : List (DataW H)} {j : Nat} {d : DataW H} (h : ∀ n ∈ DataW.weightsAll Tryz.prog e l, n ≤ 140737488351232) (hj : l[j]? = some d) : Light e d := by
  induction l generalizing j with
  | nil => cases hj
  | cons x l ih =>
    cases j with
    | zero =>
      simp only [List.getElem?_cons_zero, Option.some.injEq] at hj
      subst hj
      exact fun n hn => h n (by simp only [DataW.weightsAll, List.mem_append]; exact .inl hn)
    | succ j => exact ih (fun n hn => h n (by simp only [DataW.weightsAll, List.mem_append]; exact .inr hn)) (by simpa using hj)

set_option maxRecDepth 100000 in
theorem nodes_of_trod {H : Type} {enc : TypeId × Value → H} {W : World} {base : Nat} {sp : Nat → Bool} {held : Bool} {fuel : Nat} {v : Value} {x : DataW H × List MemPlace} (hf : DataW.trod enc Tryz.prog W base sp held fuel 22 [v] = some x) (hL : Light 22 x.1) :
    ∃ l : List Nd, NodesR W W.heap.size v l := by
  have c29 : Tryz.prog.cellsOf 41 = 5 := by kernel_rfl
  have b29 : Tryz.prog.bytesOf 41 = 64 := by kernel_rfl
  rcases DataW.trod_slice Tryz.underlying22 hf with ⟨h0, _⟩ | ⟨a, len, cap, elems, rest, n, _, hcs, hx, _, hl, hm, hlen, hel, _, _⟩
  · simp at h0
    exact ⟨[], Nat.zero_le _, fun j h => by simp at h, none, 0, h0, Nat.le_refl _, Nat.zero_le _, .inl rfl⟩
  · simp at hcs
    subst hcs
    have hw : (elems.length + rest.length) * 64 ≤ 140737488351232 := by
      refine hL _ ?_
      rw [hx]
      simp [DataW.weights, Tryz.underlying22, b29]
    have hall : ∀ m ∈ DataW.weightsAll Tryz.prog 41 (elems.map (·.1)), m ≤ 140737488351232 := fun m hm => hL m (by rw [hx]; simp [DataW.weights, Tryz.underlying22]; exact .inr (.inl hm))
    rw [c29] at hel
    have raw : ∀ j, j < len → ∃ y : Nd, ∃ (ka : Option Addr) (kc : Nat), W.cells? base (a.add (j * 5)) 5 = some [.int .i64 y.kind, .string y.text, .int .i64 y.num, .slice ka y.kids.length kc, .int .i64 y.at'] ∧ y.kids.length ≤ kc ∧ kc ≤ maxLen ∧ y.kids.length ≤ 17592186044416 ∧ y.text.size ≤ 140737488351232 ∧ KidsAt W W.heap.size ka y.kids := by
      intro j hj
      have h1 := hel j hj
      obtain ⟨z, hz⟩ : ∃ z, elems[j]? = some z := ⟨_, List.getElem?_eq_getElem (by omega)⟩
      rw [hz, Option.bind_eq_some_iff] at h1
      obtain ⟨cs, h2, h3⟩ := h1
      obtain ⟨y, ka, kc, rfl, r⟩ := node_of_trod h3 (light_all (j := j) hall (by rw [List.getElem?_map, hz]; rfl))
      exact ⟨y, ka, kc, h2, r⟩
    obtain ⟨l, hll, hk⟩ := ex_list nd0 len raw
    subst hll
    refine ⟨l, by omega, fun j hj => ?_, some a, cap, rfl, hl, hm, ?_⟩
    · obtain ⟨_, _, _, _, _, h3, h4, _⟩ := hk j hj
      exact ⟨h4, h3⟩
    by_cases h0 : l = []
    · exact .inl h0
    have hpos : 0 < l.length := List.length_pos_iff.2 h0
    obtain ⟨b, off, spot⟩ := a
    obtain ⟨_, _, hc0, _⟩ := hk 0 hpos
    have hspot : spot = none := by
      simpa [Addr.add] using World.cell?_spot ((World.cells?_some hc0).2.2 0 (by simp))
    subst hspot
    have hb : b < W.heap.size := by simpa [Addr.add] using World.cells?_block hc0 (by omega)
    refine .inr ⟨b, off, rfl, hb, fun j hj => ?_⟩
    obtain ⟨ka, kc, hc, r1, r2, _, _, r3⟩ := hk j hj
    rw [Addr.add_lit] at hc
    have h4 := (World.cells?_some hc).2.2
    have q0 := h4 0 (by simp)
    have q1 := h4 1 (by simp)
    have q2 := h4 2 (by simp)
    have q3 := h4 3 (by simp)
    have q4 := h4 4 (by simp)
    rw [Addr.add_lit] at q0 q1 q2 q3 q4
    exact ⟨q0, q1, q2, ⟨ka, kc, q3, r1, r2, r3⟩, q4⟩

set_option maxRecDepth 100000 in
theorem open_tree {H : Type} {enc : TypeId × Value → H} {W : World} {r : Reach} {b0 base : Nat} {sp : Nat → Bool} {held : Bool} {v : Value} {d : DataW H} {p : List MemPlace} (hval : Value.okWide Tryz.prog W r b0 24 v) (h : DataW.Trod enc Tryz.prog W base sp held 24 v d p) (hL : Light 24 d) :
    ∃ (v1 : Value) (l : List Nd), v = .agg #[v1] ∧ NodesR W W.heap.size v1 l := by
  obtain ⟨cs, rfl, hsz⟩ := okWide_struct Tryz.underlying24 hval
  obtain ⟨fuel, hf⟩ := h
  obtain ⟨xs, n, _, hx, hl, hlen, hfs⟩ := DataW.trod_struct Tryz.underlying24 hf
  have c24 : Tryz.prog.cellsOf 24 = 1 := by kernel_rfl
  have c22 : Tryz.prog.cellsOf 22 = 1 := by kernel_rfl
  rw [c24] at hsz
  obtain ⟨l0⟩ := cs
  match l0, hsz with
  | [v0], _ =>
    have f0 := hfs 0 _ rfl
    match xs, hlen with
    | [y0], _ =>
      simp [Value.cells] at f0
      rw [c22] at f0
      simp at f0 hx
      have hL0 : Light 22 y0.1 := fun m hm => hL m (by rw [hx.1]; simp [DataW.weights, Tryz.underlying24, DataW.weightsEach]; exact hm)
      obtain ⟨l, hN⟩ := nodes_of_trod f0 hL0
      exact ⟨v0, l, rfl, hN⟩
end Go.Proofs.YtnnpkomedpjlcaaGreatDoor

/- lent with what it lays behind. -/
/- Kids with a mark behind. -/
namespace Go.Proofs.YtnnpkomedpjlcaaGreatDoor
open Go.RowKit Go.Shelf

/-- Its kids, in a row of whole numbers of its own, and a mark behind them. -/
def KidS (W : World) (B : Nat) (e : NE) : Prop := ∃ kb cur, e.a = some ⟨kb, 0, none⟩ ∧ B ≤ kb ∧ W.heap[kb]? = some (Obj.cells cur 3 (0, 0)) ∧ (∀ j, j < e.x.kids.length → cur[j]? = some (.int .i64 (e.x.kids.getD j 0))) ∧ cur[e.x.kids.length]? = some (.int .i64 171) ∧ e.x.kids.length + 1 ≤ e.cap ∧ e.cap ≤ maxLen
theorem KidS.keep {W W' : World} {B : Nat} {e : NE} (h : KidS W B e) (hk : ∀ (k : Nat) (cur : Array Value), W.heap[k]? = some (Obj.cells cur 3 (0, 0)) → W'.heap[k]? = W.heap[k]?) : KidS W' B e := by
  obtain ⟨kb, cur, ha, hb, hh, hr⟩ := h
  exact ⟨kb, cur, ha, hb, (hk kb cur hh).trans hh, hr⟩
/-- The node behind. -/
def markN : NE := ⟨⟨171, ⟨#[]⟩, 0, [], 0⟩, none, 0⟩
end Go.Proofs.YtnnpkomedpjlcaaGreatDoor

/- shucklaw3.lent in general, with what it lays behind. -/
namespace Go.Proofs.YtnnpkomedpjlcaaGreatDoor
set_option linter.unusedSimpArgs false
set_option linter.unusedVariables false
open Go.RowKit Go.Shelf
attribute [local go_sem ↓] Go.wp_at_zero Go.wp_at_succ

/-- Between two rounds: the first nodes have rows of kids of their own, with marks behind. -/
def LS (W1 : World) (B : Nat) (v3 : Value) (os : List NE) (i : Nat) (wr : World) (es : List NE) : Prop :=
  es.map NE.x = os.map NE.x ∧ wr.ownsRow B 41 5 v3 os.length (flatN es) ∧ (∀ j e, j < i → es[j]? = some e → KidS wr B e) ∧ (∀ j, i ≤ j → es[j]? = os[j]?) ∧ Below B W1 wr
theorem LS.next {W1 wr w2 : World} {B g cap3 n : Nat} {os es : List NE} {i : Nat} {x : Nd} {ka : Option Addr} {kc g2 cap2 : Nat} (h : LS W1 B (.slice (some ⟨g, 0, none⟩) n cap3) os i wr es) (hn : os.length = n) (he : es[i]? = some ⟨x, ka, kc⟩) (hgl : g < wr.heap.size) (hBw : B ≤ wr.heap.size)
    (hb2 : Below wr.heap.size wr w2) (hown2 : w2.ownsRow B 3 1 (.slice (some ⟨g2, 0, none⟩) (x.kids.length + 1) cap2) (x.kids.length + 1) (kvs x.kids ++ [.int .i64 171])) (hg2 : wr.heap.size ≤ g2) :
    LS W1 B (.slice (some ⟨g, 0, none⟩) n cap3) os (i + 1) (w2.setCell ⟨g, i * 5 + 3, none⟩ (.slice (some ⟨g2, 0, none⟩) x.kids.length cap2)) (es.set i ⟨x, some ⟨g2, 0, none⟩, cap2⟩) := by
  obtain ⟨hmap, hown, hnew, hold, hB⟩ := h
  subst hn
  have hil : i < es.length := (List.getElem?_eq_some_iff.1 he).1
  have hgB : B ≤ g := (hown.lt g rfl).1
  have hown' : w2.ownsRow B 41 5 (.slice (some ⟨g, 0, none⟩) os.length cap3) os.length (flatN es) := ownsRow_heap hown fun k hk => by
    have : k = g := by simpa [Value.ownBlock] using hk.symm
    subst this
    exact hb2.block _ hgl
  have hst := (hown'.stored (i * 5 + 3) (.slice (some ⟨g2, 0, none⟩) x.kids.length cap2)).1
  rw [flatN_set es i x ka kc (some ⟨g2, 0, none⟩) cap2 he] at hst
  have hkeep : ∀ (k : Nat) (cur : Array Value), wr.heap[k]? = some (Obj.cells cur 3 (0, 0)) → (w2.setCell ⟨g, i * 5 + 3, none⟩ (.slice (some ⟨g2, 0, none⟩) x.kids.length cap2)).heap[k]? = wr.heap[k]? := fun k cur hk => by
    have hkl := (Array.getElem?_eq_some_iff.1 hk).1
    have hne : k ≠ g := by
      rintro rfl
      rcases hown.2 with ⟨h0, _⟩ | ⟨g', cap', cur', h0, _, hh, _⟩
      · cases h0
      · injection h0 with h1 _ _
        injection h1 with h1
        injection h1 with h1 _ _
        subst h1
        rw [hk] at hh
        cases hh
    rw [Below.heap_setCell _ _ _ _ hne]
    exact hb2.block k hkl
  refine ⟨?_, hst, fun j e hj hje => ?_, fun j hj => ?_, (hB.trans (hb2.mono hBw)).setCell hgB _⟩
  · rw [List.map_set, ← hmap]
    refine List.ext_getElem? fun j => ?_
    rw [List.getElem?_set]
    split
    · rename_i hij
      subst hij
      rw [if_pos (by simpa using hil), List.getElem?_map, he]
      rfl
    · rfl
  · by_cases hji : j = i
    · subst hji
      rw [List.getElem?_set_self (by simpa using hil)] at hje
      cases hje
      have hcap := own_cap hown2
      rcases hown2.2 with ⟨h0, _⟩ | ⟨g', cap', cur, h0, hb', hh, _, _, _, htake⟩
      · cases h0
      · injection h0 with h1 _ h3
        injection h1 with h1
        injection h1 with h1 _ _
        subst h1
        refine ⟨g2, cur, rfl, hb', ?_, fun k hk => ?_, ?_, by show x.kids.length + 1 ≤ cap2; omega, hcap.2⟩
        · rw [Below.heap_setCell _ _ _ _ (by show g2 ≠ g; omega)]; exact hh
        · have hk' : k < x.kids.length := hk
          have e1 : (cur.toList.take ((x.kids.length + 1) * 1))[k]? = cur[k]? := by rw [List.getElem?_take, if_pos (by omega)]; simp
          rw [← e1, htake, List.getElem?_append_left (by rw [kvs_len]; exact hk')]
          simp [kvs, List.getElem?_map, List.getD_eq_getElem?_getD, List.getElem?_eq_getElem hk']
        · show cur[x.kids.length]? = _
          have e1 : (cur.toList.take ((x.kids.length + 1) * 1))[x.kids.length]? = cur[x.kids.length]? := by rw [List.getElem?_take, if_pos (by omega)]; simp
          rw [← e1, htake, List.getElem?_append_right (by rw [kvs_len]; exact Nat.le_refl _), kvs_len, Nat.sub_self]
          rfl
    · rw [List.getElem?_set_ne (by omega)] at hje
      exact (hnew j e (by omega) hje).keep hkeep
  · rw [List.getElem?_set_ne (by omega)]
    exact hold j (by omega)

theorem LS.done {W1 wr w4 : World} {B g cap3 n g4 cap4 : Nat} {os es : List NE} {o : Obj} {last : List Value} {p : Addr} (h : LS W1 B (.slice (some ⟨g, 0, none⟩) n cap3) os n wr es) (hn : os.length = n) (hgr : (wr.alloc o).drew.grownBy w4 (some g))
    (hown4 : w4.ownsRow B 41 5 (.slice (some ⟨g4, 0, none⟩) (n + 1) cap4) (n + 1) (flatN es ++ last)) (hp : p.block < B) (u : Value) : (w4.setCell p u).ownsRow B 41 5 (.slice (some ⟨g4, 0, none⟩) (n + 1) cap4) (n + 1) (flatN es ++ last) ∧ ∀ e ∈ es, KidS (w4.setCell p u) B e := by
  obtain ⟨hmap, hown, hnew, hold, hB⟩ := h
  have hel : es.length = n := by have := congrArg List.length hmap; simpa [hn] using this
  have hg4 : B ≤ g4 := (hown4.lt g4 rfl).1
  refine ⟨?_, fun e he => ?_⟩
  · refine ownsRow_heap hown4 fun k hk => ?_
    have : k = g4 := by simpa [Value.ownBlock] using hk.symm
    subst this
    exact Below.heap_setCell _ _ _ _ (by omega)
  · obtain ⟨j, hj⟩ := List.getElem?_of_mem he
    have hjl := (List.getElem?_eq_some_iff.1 hj).1
    obtain ⟨kb, cur, ha, hkb, hh, hc, hc2, hc3, hc4⟩ := hnew j e (by omega) hj
    refine ⟨kb, cur, ha, hkb, ?_, hc, hc2, hc3, hc4⟩
    have hkl := (Array.getElem?_eq_some_iff.1 hh).1
    have hne : kb ≠ g := by
      rintro rfl
      rcases hown.2 with ⟨h0, _⟩ | ⟨g', cap', cur', h0, _, hh', _⟩
      · cases h0
      · injection h0 with h1 _ _
        injection h1 with h1
        injection h1 with h1 _ _
        subst h1
        rw [hh] at hh'
        cases hh'
    rw [Below.heap_setCell _ _ _ _ (by omega)]
    refine (hgr.block kb (by show kb < (wr.alloc o).heap.size; simp; omega) (by simpa using hne)).trans ?_
    exact (Below.heap_alloc wr o kb hkl).trans hh

/-- What lent answers. -/
def LentS (l : List Nd) (W : World) (e : Ending) (w' : World) : Prop := ∃ g cap es, e = .returned (.agg #[.slice (some ⟨g, 0, none⟩) l.length cap]) ∧ es.map NE.x = l ∧ w'.ownsRow (W.heap.size + 1 + 1) 41 5 (.slice (some ⟨g, 0, none⟩) (l.length + 1) cap) (l.length + 1) (flatN es ++ cellN markN) ∧ (∀ e ∈ es, KidS w' (W.heap.size + 1 + 1) e) ∧ Below W.heap.size W w'
set_option maxRecDepth 100000 in
set_option maxHeartbeats 4000000 in
theorem lents_nil (W : World) (a : Option Addr) (cap : Nat) : Calls Tryz.prog 7 #[.agg #[.slice a 0 cap]] W (LentS [] W) := by
  obtain ⟨i0, hi, hz0, hz1, hz2⟩ := info_parts infoNode
  obtain ⟨W1, hW1⟩ : ∃ W1, (W.alloc (.cells #[.slice a 0 cap] 24)).alloc (.cells #[.slice none 0 0] 24) = W1 := ⟨_, rfl⟩
  have hB1 : Below W.heap.size W W1 := by rw [← hW1]; exact ((Below.refl _ W).alloc (Nat.le_refl _) _).alloc (by simp) _
  have hz1' : W1.heap.size = W.heap.size + 1 + 1 := by rw [← hW1]; simp
  have hbx : W1.cell? ⟨W.heap.size, 0, none⟩ = some (.slice a 0 cap) := by
    rw [← hW1, Lib.cell_of_heap (at_a2 W _ _)]; rfl
  have hbr : W1.cell? ⟨W.heap.size + 1, 0, none⟩ = some (.slice none 0 0) := by
    rw [← hW1, Lib.cell_of_heap (at_a3 W _ _)]; rfl
  have hbf : W1.frozen? ⟨W.heap.size + 1, 0, none⟩ = false := by rw [← hW1]; exact frozen_at (at_a3 W _ _) 0
  obtain ⟨wr, hwr⟩ : ∃ wr, W1.alloc (.cells #[] 41) = wr := ⟨_, rfl⟩
  have hBr : Below (W.heap.size + 1 + 1) W1 wr := by rw [← hwr]; exact (Below.refl _ W1).alloc (by omega) _
  have hzr : wr.heap.size = W.heap.size + 1 + 1 + 1 := by rw [← hwr]; simp; omega
  have hown : wr.ownsRow (W.heap.size + 1 + 1) 41 5 (.slice (some ⟨W.heap.size + 1 + 1, 0, none⟩) 0 0) 0 (flatN []) := own_empty (by rw [← hwr, ← hz1']; exact World.alloc_heap_new W1 _) (Nat.le_refl _)
  have HLS : Hid (LS W1 (W.heap.size + 1 + 1) (.slice (some ⟨W.heap.size + 1 + 1, 0, none⟩) 0 0) [] 0 wr []) := ⟨rfl, hown, fun j e h => by omega, fun _ _ => rfl, hBr⟩
  have hs1 : W.heap.size < wr.heap.size := by omega
  have hs2 : W.heap.size + 1 < wr.heap.size := by omega
  have hBwr : W.heap.size + 1 + 1 ≤ wr.heap.size := by omega
  have cb1 : wr.cell? ⟨W.heap.size, 0, none⟩ = some (.slice a 0 cap) := (hBr.cell (p := ⟨W.heap.size, 0, none⟩) (by show W.heap.size < _; omega)).trans hbx
  have cb2 : wr.cell? ⟨W.heap.size + 1, 0, none⟩ = some (.slice none 0 0) := (hBr.cell (p := ⟨W.heap.size + 1, 0, none⟩) (by show W.heap.size + 1 < _; omega)).trans hbr
  have fb2 : wr.frozen? ⟨W.heap.size + 1, 0, none⟩ = false := frozen_below hBr (by show W.heap.size + 1 < _; omega) hbf
  have hsk : ∀ w', Below (W.heap.size + 1 + 1) wr w' → w'.cell? ⟨W.heap.size, 0, none⟩ = some (.slice a 0 cap) := fun w' h => (h.cell (p := ⟨W.heap.size, 0, none⟩) (by show W.heap.size < _; omega)).trans cb1
  have hsf : ∀ w', Below (W.heap.size + 1 + 1) wr w' → w'.cell? ⟨W.heap.size + 1, 0, none⟩ = some (.slice none 0 0) ∧ w'.frozen? ⟨W.heap.size + 1, 0, none⟩ = false := fun w' h => ⟨(h.cell (p := ⟨W.heap.size + 1, 0, none⟩) (by show W.heap.size + 1 < _; omega)).trans cb2, frozen_below h (by show W.heap.size + 1 < _; omega) fb2⟩
  have HSK := hide hsk
  have HSF := hide hsf
  clear hsk hsf
  have HOW := hide hown
  have HW1 := hide hW1
  have HWR := hide hwr
  clear hown hW1 hwr hzr
  go_enter Tryz.func7, Tryz.ntmps7
  cases a with
  | none =>
    go_wp2
    rw [unhide HW1, unhide HWR]
    go_loopw [4] (fun t w' => t = .int .i64 0 ∧ w' = wr) (fun _ _ => 0)
    case atStart => exact ⟨rfl, rfl⟩
    case round =>
      obtain ⟨rfl, rfl⟩ := hrel
      go_wp2
      go_region_held3 (fun w' => w'.cell? ⟨W.heap.size, 0, none⟩ = some (.slice none 0 cap))
        (first
          | assumption
          | exact unhide HSK _ (Below.refl _ _)
          | exact unhide HSK _ (Below.refl _ _).drew
          | exact unhide HSK _ ((Below.refl _ _).alloc hBwr _)
          | exact unhide HSK _ ((Below.refl _ _).alloc hBwr _).drew
          | exact unhide HSK _ hb4
          | go_keep)
        ((refine step_append_lies _ (by rfl) _ _ _ (by rfl) (W.heap.size + 1 + 1) 41 i0 _ 5 64 Tryz.underlying22 hi hz0 hz1 hz2 rfl (by omega) _ 0 (flatN []) (by rfl) (((unhide HOW).alloc _).drew) ⟨_, 0, none⟩ 1 1 (cellN ⟨⟨171, ⟨#[]⟩, 0, [], 0⟩, none, 0⟩) (by rfl) (by rfl) (World.news_of_block (cs := #[.int .i64 171, .string ⟨#[]⟩, .int .i64 0, .slice none 0 0, .int .i64 0]) (t := 41) (fr := (0, 0)) (at_d (at_a1 _ _))) (by intro u hu; simp [cellN] at hu; rcases hu with rfl | rfl | rfl | rfl | rfl <;> rfl) (by omega) (by unfold maxLen; omega) (by omega) (by simp; omega) _ rfl ?_; intro g4 cap4 w4 hown4 hgrow4 hat4 hlt4; have hcp4 := (own_cap hown4).1; have hcp4' : (0 : Int) ≤ (cap4 : Int) := (by omega); have hb4 : Below (W.heap.size + 1 + 1) _ w4 := ((Below.refl _ _).alloc hBwr _).drew.grown hgrow4 (by simp; omega) (fun k hk => by simp [Value.ownBlock] at hk; omega); have hcw4 := (unhide HSF w4 hb4).1; have hfw4 := (unhide HSF w4 hb4).2; have hsz4 : W.heap.size + 1 < w4.heap.size := (by have := hb4.size; omega)))
      go_wp2
      refine bodyPost_ret (v := .agg #[.slice (some ⟨g4, 0, none⟩) 0 cap4]) (by simp [results, Tryz.results7, go_sem, hcw4]) rfl ⟨g4, cap4, [], rfl, rfl, ((unhide HLS).done rfl hgrow4 hown4 (by show W.heap.size + 1 < _; omega) _).1, ((unhide HLS).done rfl hgrow4 hown4 (by show W.heap.size + 1 < _; omega) _).2, ?_⟩
      have hw4 : Below W.heap.size W w4 := hB1.trans ((hBr.mono (by omega)).trans (hb4.mono (by omega)))
      exact hw4.setCell (by show W.heap.size ≤ W.heap.size + 1; omega) _
  | some ad =>
    go_wp2
    rw [unhide HW1, unhide HWR]
    go_loopw [4] (fun t w' => t = .int .i64 0 ∧ w' = wr) (fun _ _ => 0)
    case atStart => exact ⟨rfl, rfl⟩
    case round =>
      obtain ⟨rfl, rfl⟩ := hrel
      go_wp2
      go_region_held3 (fun w' => w'.cell? ⟨W.heap.size, 0, none⟩ = some (.slice (some ad) 0 cap))
        (first
          | assumption
          | exact unhide HSK _ (Below.refl _ _)
          | exact unhide HSK _ (Below.refl _ _).drew
          | exact unhide HSK _ ((Below.refl _ _).alloc hBwr _)
          | exact unhide HSK _ ((Below.refl _ _).alloc hBwr _).drew
          | exact unhide HSK _ hb4
          | go_keep)
        ((refine step_append_lies _ (by rfl) _ _ _ (by rfl) (W.heap.size + 1 + 1) 41 i0 _ 5 64 Tryz.underlying22 hi hz0 hz1 hz2 rfl (by omega) _ 0 (flatN []) (by rfl) (((unhide HOW).alloc _).drew) ⟨_, 0, none⟩ 1 1 (cellN ⟨⟨171, ⟨#[]⟩, 0, [], 0⟩, none, 0⟩) (by rfl) (by rfl) (World.news_of_block (cs := #[.int .i64 171, .string ⟨#[]⟩, .int .i64 0, .slice none 0 0, .int .i64 0]) (t := 41) (fr := (0, 0)) (at_d (at_a1 _ _))) (by intro u hu; simp [cellN] at hu; rcases hu with rfl | rfl | rfl | rfl | rfl <;> rfl) (by omega) (by unfold maxLen; omega) (by omega) (by simp; omega) _ rfl ?_; intro g4 cap4 w4 hown4 hgrow4 hat4 hlt4; have hcp4 := (own_cap hown4).1; have hcp4' : (0 : Int) ≤ (cap4 : Int) := (by omega); have hb4 : Below (W.heap.size + 1 + 1) _ w4 := ((Below.refl _ _).alloc hBwr _).drew.grown hgrow4 (by simp; omega) (fun k hk => by simp [Value.ownBlock] at hk; omega); have hcw4 := (unhide HSF w4 hb4).1; have hfw4 := (unhide HSF w4 hb4).2; have hsz4 : W.heap.size + 1 < w4.heap.size := (by have := hb4.size; omega)))
      go_wp2
      refine bodyPost_ret (v := .agg #[.slice (some ⟨g4, 0, none⟩) 0 cap4]) (by simp [results, Tryz.results7, go_sem, hcw4]) rfl ⟨g4, cap4, [], rfl, rfl, ((unhide HLS).done rfl hgrow4 hown4 (by show W.heap.size + 1 < _; omega) _).1, ((unhide HLS).done rfl hgrow4 hown4 (by show W.heap.size + 1 < _; omega) _).2, ?_⟩
      have hw4 : Below W.heap.size W w4 := hB1.trans ((hBr.mono (by omega)).trans (hb4.mono (by omega)))
      exact hw4.setCell (by show W.heap.size ≤ W.heap.size + 1; omega) _
end Go.Proofs.YtnnpkomedpjlcaaGreatDoor

/- shucklaw3.lent over a tree that has nodes, with what it lays behind. -/
namespace Go.Proofs.YtnnpkomedpjlcaaGreatDoor
set_option linter.unusedSimpArgs false
set_option linter.unusedVariables false
open Go.RowKit Go.Shelf
attribute [local go_sem ↓] Go.wp_at_zero Go.wp_at_succ

theorem hat_le {g1 n c g2 H N : Nat} (h : (Value.slice (some ⟨g1, 0, none⟩) n c).ownBlock = some g2 ∨ g2 = H) (h1 : N ≤ g1) (h2 : N ≤ H) : N ≤ g2 := by
  rcases h with h | h
  · have : g1 = g2 := by simpa [Value.ownBlock] using h
    omega
  · omega
set_option maxRecDepth 100000 in
set_option maxHeartbeats 16000000 in
theorem lents_cons (W : World) (M : Nat) (v : Value) (l : List Nd) (hN : Nodes W M v l) (hM : M ≤ W.heap.size) (hsz : szN l l.length ≤ 3000) (hne : l ≠ []) :
    Calls Tryz.prog 7 #[.agg #[v]] W (LentS l W) := by
  obtain ⟨i0, hi, hz0, hz1, hz2⟩ := info_parts infoNode
  obtain ⟨j0, hj, hy0, hy1, hy2⟩ := info_parts infoInt
  obtain ⟨b, o, cap, rfl, hb, os, hos, hcells, hkids⟩ := nodes_rows hN hne
  have hll : l.length ≤ 3000 := Nat.le_trans (szN_len l l.length) hsz
  have hl0 : 0 < l.length := List.length_pos_iff.2 hne
  have hosl : os.length = l.length := by rw [← hos]; simp
  have hbW : b < W.heap.size := by omega
  have HCELLS := hide hcells
  have HOSL := hide hosl
  have HKIDS := hide hkids
  have HOS := hide hos
  clear hcells hosl hkids hos hN hne
  obtain ⟨W1, hW1⟩ : ∃ W1, (W.alloc (.cells #[.slice (some ⟨b, o, none⟩) l.length cap] 24)).alloc (.cells #[.slice none 0 0] 24) = W1 := ⟨_, rfl⟩
  have hB1 : Below W.heap.size W W1 := by rw [← hW1]; exact ((Below.refl _ W).alloc (Nat.le_refl _) _).alloc (by simp) _
  have hz1' : W1.heap.size = W.heap.size + 1 + 1 := by rw [← hW1]; simp
  have hbx : W1.cell? ⟨W.heap.size, 0, none⟩ = some (.slice (some ⟨b, o, none⟩) l.length cap) := by
    have := two_boxes (W := W) (.slice (some ⟨b, o, none⟩) l.length cap) (.slice none 0 0) 24 24 (C := W1) (by rw [hW1]; exact Below.refl _ _)
    exact this.1
  have hbr : W1.cell? ⟨W.heap.size + 1, 0, none⟩ = some (.slice none 0 0) := by
    have := two_boxes (W := W) (.slice (some ⟨b, o, none⟩) l.length cap) (.slice none 0 0) 24 24 (C := W1) (by rw [hW1]; exact Below.refl _ _)
    exact this.2
  have hbf : W1.frozen? ⟨W.heap.size + 1, 0, none⟩ = false := by rw [← hW1]; exact frozen_at (at_a3 W _ _) 0
  have HW1 := hide hW1
  clear hW1
  go_enter Tryz.func7, Tryz.ntmps7
  go_wp2_with (at_builtin; rw [unhide HW1]; refine wpList_append_lies _ rfl _ _ 22 rfl (W.heap.size + 1 + 1) 41 i0 _ 5 64 Tryz.underlying22 hi hz0 hz1 hz2 rfl (by decide) (.slice (some ⟨W.heap.size + 1 + 1, 0, none⟩) 0 0) 0 [] rfl (own_empty (by rw [← hz1']; exact World.alloc_heap_new W1 _) (Nat.le_refl _)) ⟨b, o, none⟩ l.length cap (flatN os) rfl ?c0 ?c1 (flatN_one os) hl0 ?c3 ?c4 ?c5 _ rfl ?_)
  case c0 => rw [flatN_len, unhide HOSL]
  case c1 =>
    intro j u hj
    rw [Addr.add_lit]
    refine (((hB1.alloc (by omega) _).cell (p := ⟨b, o + j, none⟩) hbW)).trans (unhide HCELLS j u hj)
  case c3 => unfold maxLen; omega
  case c4 => omega
  case c5 => simp; omega
  intro g cap3 w3 hown3 hg3 hat3 hlt3
  have hB3 : Below (W.heap.size + 1 + 1) W1 w3 := ((Below.refl _ W1).alloc (by omega) _).grown hg3 (by simp; omega) (fun k hk => by simp [Value.ownBlock] at hk; omega)
  have hgB : W.heap.size + 1 + 1 ≤ g := (hown3.lt g rfl).1
  have h0 : LS W1 (W.heap.size + 1 + 1) (.slice (some ⟨g, 0, none⟩) l.length cap3) os 0 w3 os := ⟨rfl, by rw [unhide HOSL]; exact hown3, fun j e h => by omega, fun _ _ => rfl, hB3⟩
  have H0 := hide h0
  clear h0 hown3 hg3 hat3 hB3
  go_wp2
  go_loopw [4] (fun t wr => ∃ (i : Nat) (es : List NE), i ≤ l.length ∧ t = .int .i64 (i : Int) ∧ LS W1 (W.heap.size + 1 + 1) (.slice (some ⟨g, 0, none⟩) l.length cap3) os i wr es) (fun t _ => l.length - (intOf t).toNat)
  case atStart => exact ⟨0, os, Nat.zero_le _, rfl, unhide H0⟩
  case round =>
    obtain ⟨i, es, hil, rfl, hmap, hown, hnew, hold, hBr⟩ := hrel
    have hwr := hBr.size
    have hgl := (hown.lt g rfl).2
    have HMAP := hide hmap
    have HOWN := hide hown
    have HNEW := hide hnew
    have HOLD := hide hold
    clear hmap hown hnew hold
    by_cases hlt : i < l.length
    · have hlt' : (i : Int) < l.length := by omega
      have hi0' : (0 : Int) ≤ (i : Int) := Int.natCast_nonneg _
      obtain ⟨e0, he0⟩ : ∃ e0, os[i]? = some e0 := ⟨_, List.getElem?_eq_getElem (by rw [unhide HOSL]; exact hlt)⟩
      have he1 : es[i]? = some e0 := (unhide HOLD i (Nat.le_refl _)).trans he0
      have hown := unhide HOWN
      rw [unhide HOSL] at hown
      have hkA := (unhide HKIDS e0 (List.mem_of_getElem? he0)).keep (hB1.trans (hBr.mono (by omega))) hM
      have hk3 : e0.x.kids.length ≤ 3000 := by
        have h1 : nd l i = e0.x := by rw [← unhide HOS]; simp [nd, List.getD_eq_getElem?_getD, he0]
        have := szN_at l hlt
        rw [h1] at this
        omega
      obtain ⟨x, ka, kc⟩ := e0
      have hc3 : wr.cell? ⟨g, i * 5 + 3, none⟩ = some (.slice ka x.kids.length kc) := by
        rw [hown.cellAt (i * 5 + 3) (by omega), flatN_get es i _ he1 3 (by omega)]; rfl
      have hf3 : wr.frozen? ⟨g, i * 5 + 3, none⟩ = false := hown.frozenAt _
      obtain ⟨ks, hks⟩ : ∃ ks, x.kids = ks := ⟨_, rfl⟩
      simp only at hkA hk3
      rw [hks] at hkA hk3 hc3
      have HKS := hide hks
      have HE0 := hide he0
      have HE1 := hide he1
      have HKA := hide hkA
      have hMwr : M ≤ wr.heap.size := by omega
      have hBwr : W.heap.size + 1 + 1 ≤ wr.heap.size := by omega
      clear hks he0 he1 hkA hown
      go_wp2
      have HLS : Hid (LS W1 (W.heap.size + 1 + 1) (.slice (some ⟨g, 0, none⟩) l.length cap3) os i wr es) := ⟨unhide HMAP, unhide HOWN, unhide HNEW, unhide HOLD, hBr⟩
      have hsk : ∀ w', Below wr.heap.size wr w' → Below wr.heap.size wr w' ∧ w'.cell? ⟨g, i * 5 + 3, none⟩ = some (.slice ka ks.length kc) ∧ w'.frozen? ⟨g, i * 5 + 3, none⟩ = false := fun w' h => sk hgl hc3 hf3 h
      have HSK := hide hsk
      clear hsk
      go_region_law (first
          | (refine step_kids (by rfl) _ _ (by rfl) (W.heap.size + 1 + 1) M _ ka ks kc (by rfl) (by rfl) (by first | exact at_d (at_a1 _ _) | exact at_d (at_a2 _ _ _) | exact at_d (at_a3 _ _ _)) (by omega) (by first | exact kids_d (kids_a1 (unhide HKA) hMwr _) | exact kids_d (kids_a2 (unhide HKA) hMwr _ _)) hk3 ?_; intro g1 cap1 w1 hown1 hgrow1 hat1 hlt1; have hg1 : wr.heap.size ≤ g1 := (by simp at hat1; omega); have hb1 : Below wr.heap.size wr w1 := (by first | exact below_gr (below_al (below_al (Below.refl _ _))).drew hgrow1 (by omega) | exact below_gr (below_al (Below.refl _ _)).drew hgrow1 (by omega)); have hcw1 := (unhide HSK w1 hb1).2.1; have hgw1 : g < w1.heap.size := Nat.lt_of_lt_of_le hgl hb1.size)
          | (refine step_append_lies _ (by rfl) _ _ _ (by rfl) (W.heap.size + 1 + 1) 3 j0 _ 1 8 Tryz.underlying39 hj hy0 hy1 hy2 rfl (by omega) _ ks.length (kvs ks) (by rfl) (by first | exact hown1 | exact hown1.alloc _) ⟨_, 0, none⟩ 1 1 [.int .i64 171] (by rfl) (by rfl) (World.news_of_block (cs := #[.int .i64 171]) (t := 3) (fr := (0, 0)) (by first | exact at_a1 _ _ | exact (hgrow1.block _ (by simp <;> omega) (by simp <;> omega)).trans (at_d (at_a3 _ _ _)) | exact (hgrow1.block _ (by simp <;> omega) (by simp <;> omega)).trans (at_d (at_a2 _ _ _)))) (by simp [Value.oneCell']) (by omega) (by unfold maxLen; omega) (by omega) (by have := hgrow1.size; simp at this ⊢; omega) _ rfl ?_; intro g2 cap2 w2 hown2 hgrow2 hat2 hlt2; have hcp2 := (own_cap hown2).1; have hcp3 : (ks.length : Int) ≤ (cap2 : Int) := (by omega); have hks0 : (0 : Int) ≤ (ks.length : Int) := Int.natCast_nonneg _; have hb2 : Below wr.heap.size wr w2 := below_gr (by first | exact hb1 | exact below_al hb1) hgrow2 hg1; have hcw2 := (unhide HSK w2 hb2).2.1; have hfw2 := (unhide HSK w2 hb2).2.2; have hgw2 : g < w2.heap.size := Nat.lt_of_lt_of_le hgl hb2.size; have hg2 : wr.heap.size ≤ g2 := hat_le hat2 hg1 (by first | exact hb1.size | exact (below_al hb1).size)))
      all_goals (
        go_wp2
        have hks := unhide HKS
        subst hks
        exact ⟨⟨i + 1, es.set i ⟨x, some ⟨g2, 0, none⟩, cap2⟩, by omega, by go_num, (unhide HLS).next (unhide HOSL) (unhide HE1) hgl hBwr hb2 hown2 hg2⟩, by simp [intOf]; omega⟩)
    · have hlt' : ¬ (i : Int) < l.length := by omega
      obtain rfl : i = l.length := by omega
      have hl0' : (0 : Int) ≤ (l.length : Int) := Int.natCast_nonneg _
      have cb1 : wr.cell? ⟨W.heap.size, 0, none⟩ = some (.slice (some ⟨b, o, none⟩) l.length cap) := (hBr.cell (p := ⟨W.heap.size, 0, none⟩) (by show W.heap.size < _; omega)).trans hbx
      have cb2 : wr.cell? ⟨W.heap.size + 1, 0, none⟩ = some (.slice none 0 0) := (hBr.cell (p := ⟨W.heap.size + 1, 0, none⟩) (by show W.heap.size + 1 < _; omega)).trans hbr
      have fb2 : wr.frozen? ⟨W.heap.size + 1, 0, none⟩ = false := frozen_below hBr (by show W.heap.size + 1 < _; omega) hbf
      have hown := unhide HOWN
      rw [unhide HOSL] at hown
      have HOW := hide hown
      have hs1 : W.heap.size < wr.heap.size := by omega
      have hs2 : W.heap.size + 1 < wr.heap.size := by omega
      have hBwr : W.heap.size + 1 + 1 ≤ wr.heap.size := by omega
      have HLS : Hid (LS W1 (W.heap.size + 1 + 1) (.slice (some ⟨g, 0, none⟩) l.length cap3) os l.length wr es) := ⟨unhide HMAP, unhide HOWN, unhide HNEW, unhide HOLD, hBr⟩
      have hsk : ∀ w', Below (W.heap.size + 1 + 1) wr w' → Below (W.heap.size + 1 + 1) wr w' ∧ w'.cell? ⟨W.heap.size, 0, none⟩ = some (.slice (some ⟨b, o, none⟩) l.length cap) := fun w' h => ⟨h, (h.cell (p := ⟨W.heap.size, 0, none⟩) (by show W.heap.size < _; omega)).trans cb1⟩
      have HSK := hide hsk
      have hsf : ∀ w', Below (W.heap.size + 1 + 1) wr w' → w'.cell? ⟨W.heap.size + 1, 0, none⟩ = some (.slice none 0 0) ∧ w'.frozen? ⟨W.heap.size + 1, 0, none⟩ = false := fun w' h => ⟨(h.cell (p := ⟨W.heap.size + 1, 0, none⟩) (by show W.heap.size + 1 < _; omega)).trans cb2, frozen_below h (by show W.heap.size + 1 < _; omega) fb2⟩
      have HSF := hide hsf
      clear hsk hsf hown
      go_wp2
      go_region_held3 (fun w' => w'.cell? ⟨W.heap.size, 0, none⟩ = some (.slice (some ⟨b, o, none⟩) l.length cap))
        (first
          | assumption
          | exact (unhide HSK _ (Below.refl _ _)).2
          | exact (unhide HSK _ (Below.refl _ _).drew).2
          | exact (unhide HSK _ ((Below.refl _ wr).alloc hBwr _)).2
          | exact (unhide HSK _ ((Below.refl _ wr).alloc hBwr _).drew).2
          | exact (unhide HSK _ hb4).2
          | go_keep)
        ((refine step_append_lies _ (by rfl) _ _ _ (by rfl) (W.heap.size + 1 + 1) 41 i0 _ 5 64 Tryz.underlying22 hi hz0 hz1 hz2 rfl (by omega) _ l.length (flatN es) (by rfl) (((unhide HOW).alloc _).drew) ⟨wr.heap.size, 0, none⟩ 1 1 (cellN ⟨⟨171, ⟨#[]⟩, 0, [], 0⟩, none, 0⟩) (by rfl) (by rfl) (World.news_of_block (cs := #[.int .i64 171, .string ⟨#[]⟩, .int .i64 0, .slice none 0 0, .int .i64 0]) (t := 41) (fr := (0, 0)) (at_d (at_a1 _ _))) (by intro u hu; simp [cellN] at hu; rcases hu with rfl | rfl | rfl | rfl | rfl <;> rfl) (by omega) (by unfold maxLen; omega) (by omega) (by simp; omega) _ rfl ?_; intro g4 cap4 w4 hown4 hgrow4 hat4 hlt4; have hcp4 := (own_cap hown4).1; have hcp4' : (l.length : Int) ≤ (cap4 : Int) := (by omega); have hb4 : Below (W.heap.size + 1 + 1) wr w4 := ((Below.refl _ wr).alloc hBwr _).drew.grown hgrow4 (by simp; omega) (fun k hk => by simp [Value.ownBlock] at hk; omega); have hcw4 := (unhide HSF w4 hb4).1; have hfw4 := (unhide HSF w4 hb4).2; have hsz4 : W.heap.size + 1 < w4.heap.size := (by have := hb4.size; omega)))
      go_wp2
      refine bodyPost_ret (v := .agg #[.slice (some ⟨g4, 0, none⟩) l.length cap4]) (by simp [results, Tryz.results7, go_sem, hcw4]) rfl ⟨g4, cap4, es, rfl, (unhide HMAP).trans (unhide HOS), ((unhide HLS).done (unhide HOSL) hgrow4 hown4 (by show W.heap.size + 1 < _; omega) _).1, ((unhide HLS).done (unhide HOSL) hgrow4 hown4 (by show W.heap.size + 1 < _; omega) _).2, ?_⟩
      have hw4 : Below W.heap.size W w4 := hB1.trans ((hBr.mono (by omega)).trans (hb4.mono (by omega)))
      exact hw4.setCell (by show W.heap.size ≤ W.heap.size + 1; omega) _
end Go.Proofs.YtnnpkomedpjlcaaGreatDoor

/- shucklaw3.back in general: a lent tree that is as it was. -/
namespace Go.Proofs.YtnnpkomedpjlcaaGreatDoor
set_option linter.unusedSimpArgs false
set_option linter.unusedVariables false
open Go.RowKit Go.Shelf

set_option maxRecDepth 100000 in
set_option maxHeartbeats 4000000 in
theorem ints_quiet (W : World) (M : Nat) (a1 a2 : Option Addr) (x : List Int) (c1 c2 : Nat) (h1 : KidsAt W M a1 x) (h2 : KidsAt W M a2 x) (hl1 : x.length ≤ 17592186044416) :
    Calls Tryz.prog 23 #[.slice a1 x.length c1, .slice a2 x.length c2] W fun e w' => e = .returned (.bool true) ∧ ∃ m, w' = W.drewN m := by
  have H1 := hide h1
  have H2 := hide h2
  clear h1 h2
  go_enter Tryz.func23, Tryz.ntmps23
  go_wp2
  go_loopw [5] (fun t wr => ∃ i m : Nat, i ≤ x.length ∧ t = .int .i64 (i : Int) ∧ wr = W.drewN m) (fun t _ => x.length - (intOf t).toNat)
  case atStart => exact ⟨0, 0, Nat.zero_le _, rfl, rfl⟩
  case round =>
    obtain ⟨i, m, hi, rfl, rfl⟩ := hrel
    by_cases hil : i < x.length
    · have hil' : (i : Int) < x.length := by omega
      have hk1 := unhide H1
      have hk2 := unhide H2
      rcases hk1 with hk1 | ⟨b1, o1, rfl, hb1, hk1⟩
      · subst hk1; simp at hil
      rcases hk2 with hk2 | ⟨b2, o2, rfl, hb2, hk2⟩
      · subst hk2; simp at hil
      have d1 := hk1 i hil
      have d2 := hk2 i hil
      clear hk1 hk2
      obtain ⟨k1, hk1⟩ : ∃ k, x.getD i 0 = k := ⟨_, rfl⟩
      rw [hk1] at d1 d2
      clear hk1
      have hkk : (k1 != k1) = false := by simp
      go_wp2
      go_quiet (fail)
      go_wp2
      exact ⟨⟨i + 1, _, by omega, by go_num, rfl⟩, by simp [intOf]; omega⟩
    · have hil' : ¬ (i : Int) < x.length := by omega
      go_wp2
      go_ret
      exact ⟨rfl, _, rfl⟩

/-- A row of kids with a mark, as kids that can be read, and the mark. -/
theorem KidS.kids {W : World} {B : Nat} {e : NE} (h : KidS W B e) : ∃ kb, e.a = some ⟨kb, 0, none⟩ ∧ kb < W.heap.size ∧ KidsAt W W.heap.size e.a e.x.kids ∧ W.cell? ⟨kb, e.x.kids.length, none⟩ = some (.int .i64 171) ∧ e.x.kids.length + 1 ≤ e.cap ∧ e.cap ≤ maxLen := by
  obtain ⟨kb, cur, ha, hb, hh, hj, hm, hc1, hc2⟩ := h
  have hlt := (Array.getElem?_eq_some_iff.1 hh).1
  refine ⟨kb, ha, hlt, .inr ⟨kb, 0, ha, hlt, fun j hjl => ?_⟩, ?_, hc1, hc2⟩
  · rw [Lib.cell_of_heap hh, Nat.zero_add, hj j hjl]
  · rw [Lib.cell_of_heap hh, hm]

set_option maxRecDepth 100000 in
set_option maxHeartbeats 4000000 in
theorem back_any (W : World) (M B g cap : Nat) (v : Value) (l : List Nd) (es : List NE) (hN : Nodes W M v l) (hM : M ≤ W.heap.size) (hes : es.map NE.x = l) (hown : W.ownsRow B 41 5 (.slice (some ⟨g, 0, none⟩) (l.length + 1) cap) (l.length + 1) (flatN es ++ cellN markN))
    (hks : ∀ e ∈ es, KidS W B e) (hl : l.length ≤ 100000) (hkl : ∀ m, m < l.length → (nd l m).kids.length ≤ 100000) :
    Calls Tryz.prog 10 #[.agg #[.slice (some ⟨g, 0, none⟩) l.length cap], .agg #[v]] W fun e w' => e = .returned (.bool true) ∧ Below W.heap.size W w' := by
  have HN := hide hN
  obtain ⟨a', cap', rfl, _, _⟩ := hN.len
  obtain ⟨W1, hW1⟩ : ∃ W1, (W.alloc (.cells #[.slice (some ⟨g, 0, none⟩) l.length cap] 24)).alloc (.cells #[.slice a' l.length cap'] 24) = W1 := ⟨_, rfl⟩
  have hz1 : W1.heap.size = W.heap.size + 1 + 1 := by rw [← hW1]; simp
  have hB1 : Below W.heap.size W W1 := by rw [← hW1]; exact ((Below.refl _ W).alloc (Nat.le_refl _) _).alloc (by simp) _
  have hcapl := own_cap hown
  have hgl : g < W.heap.size := (hown.lt g rfl).2
  have hell : es.length = l.length := by rw [← hes]; simp
  have hfl : (flatN es).length = l.length * 5 := by rw [flatN_len, hell]
  have HK : Hid (∀ w', Below (W.heap.size + 1 + 1) W1 w' → Below W.heap.size W w' ∧ w'.cell? ⟨W.heap.size, 0, none⟩ = some (.slice (some ⟨g, 0, none⟩) l.length cap) ∧ w'.cell? ⟨W.heap.size + 1, 0, none⟩ = some (.slice a' l.length cap') ∧ W.heap.size < w'.heap.size ∧ W.heap.size + 1 < w'.heap.size ∧ g < w'.heap.size) := fun w' h => by
    obtain ⟨c1, c2⟩ := two_boxes _ _ _ _ (by rw [hW1]; exact h)
    have hs := h.size
    exact ⟨hB1.trans (h.mono (by omega)), c1, c2, by omega, by omega, by omega⟩
  have HC : Hid (∀ w', Below W.heap.size W w' → w'.cell? ⟨g, l.length * 5, none⟩ = some (.int .i64 171) ∧ ∀ (i : Nat) (e : NE), es[i]? = some e → w'.cell? ⟨g, i * 5, none⟩ = some (.int .i64 e.x.kind) ∧ w'.cell? ⟨g, i * 5 + 1, none⟩ = some (.string e.x.text) ∧ w'.cell? ⟨g, i * 5 + 2, none⟩ = some (.int .i64 e.x.num) ∧ w'.cell? ⟨g, i * 5 + 3, none⟩ = some (.slice e.a e.x.kids.length e.cap) ∧ w'.cell? ⟨g, i * 5 + 4, none⟩ = some (.int .i64 e.x.at')) := fun w' h => by
    have hc : ∀ j, j < (l.length + 1) * 5 → w'.cell? ⟨g, j, none⟩ = (flatN es ++ cellN markN)[j]? := fun j hj => by
      rw [h.cell (p := ⟨g, j, none⟩) hgl]
      exact hown.cellAt j hj
    refine ⟨?_, fun i e he => ?_⟩
    · rw [hc _ (by omega), List.getElem?_append_right (by omega), hfl, Nat.sub_self]; rfl
    · have hil : i < l.length := by have := (List.getElem?_eq_some_iff.1 he).1; omega
      have hq : ∀ k, k < 5 → w'.cell? ⟨g, i * 5 + k, none⟩ = (cellN e)[k]? := fun k hk => by
        rw [hc _ (by omega), List.getElem?_append_left (by omega), flatN_get es i e he k hk]
      exact ⟨hq 0 (by omega), hq 1 (by omega), hq 2 (by omega), hq 3 (by omega), hq 4 (by omega)⟩
  have HKS := hide hks
  have HES := hide hes
  have HW1 := hide hW1
  have HKL := hide hkl
  have hb0 := unhide HK W1 (by rw [← hz1]; exact Below.refl _ _)
  obtain ⟨_, c1, c2, s1, s2, s3⟩ := hb0
  have m1 := (unhide HC W1 hB1).1
  have g1 : (((l.length : Nat) : Int) != ((l.length : Nat) : Int)) = false := by simp
  have hcp : (l.length : Int) + 1 ≤ (cap : Int) := by omega
  clear hN hW1 hes hks hown hkl hfl
  go_enter Tryz.func10, Tryz.ntmps10
  go_wp2
  rw [unhide HW1]
  go_quiet (fail)
  go_wp2
  clear c1 c2 s1 s2 s3 m1
  go_loopw [5] (fun t wr => ∃ i : Nat, i ≤ l.length ∧ t = .int .i64 (i : Int) ∧ Below (W.heap.size + 1 + 1) W1 wr) (fun t _ => l.length - (intOf t).toNat)
  case atStart => exact ⟨0, Nat.zero_le _, rfl, below_drewN (by rw [← hz1]; exact Below.refl _ _) _⟩
  case round =>
    obtain ⟨w0, hw0⟩ : ∃ w0, w0 = wr := ⟨_, rfl⟩
    subst hw0
    obtain ⟨i, hil, rfl, hBr⟩ := hrel
    obtain ⟨hB0, c1, c2, s1, s2, s3⟩ := unhide HK w0 hBr
    have HBR := hide hBr
    have HB0 := hide hB0
    clear hBr
    by_cases hlt : i < l.length
    · have hlt' : (i : Int) < l.length := by omega
      have hi0' : (0 : Int) ≤ (i : Int) := Int.natCast_nonneg _
      obtain ⟨⟨x, a0, cap0⟩, he0⟩ : ∃ e0, es[i]? = some e0 := ⟨_, List.getElem?_eq_getElem (by omega)⟩
      have hx : nd l i = x := by
        rw [← unhide HES]
        simp [nd, List.getD_eq_getElem?_getD, he0]
      obtain ⟨kb, ha0, hkb, hK0, mk, hkc1, hkc2⟩ := (unhide HKS _ (List.mem_of_getElem? he0)).kids
      obtain ⟨q0, q1, q2, q3, q4⟩ := (unhide HC w0 hB0).2 i _ he0
      obtain ⟨b', o', cap1', ka', kc', hv', _, _, hb', e0, e1, e2, e3, e4, _, _, hK'⟩ := ((unhide HN).keep hB0 hM).at hlt
      cases hv'
      have hkl := unhide HKL i hlt
      rw [hx] at e0 e1 e2 e3 e4 hK' hkl
      simp only at ha0 hK0 mk hkc1 hkc2 q0 q1 q2 q3 q4
      subst ha0
      obtain ⟨kl, hkl'⟩ : ∃ kl, x.kids.length = kl := ⟨_, rfl⟩
      obtain ⟨W2, hW2⟩ : ∃ W2, w0.alloc (.cells #[.int .i64 x.kind, .string x.text, .int .i64 x.num, .slice ka' kl kc', .int .i64 x.at'] 41) = W2 := ⟨_, rfl⟩
      have hB2 : Below w0.heap.size w0 W2 := by rw [← hW2]; exact (Below.refl _ w0).alloc (Nat.le_refl _) _
      have hz2 : W2.heap.size = w0.heap.size + 1 := by rw [← hW2]; simp
      have hz0 := hB0.size
      have HQ : Hid (∀ n, Calls Tryz.prog 23 #[.slice (some ⟨kb, 0, none⟩) kl cap0, .slice ka' kl kc'] (W2.drewN n) fun e w' => e = .returned (.bool true) ∧ ∃ m, w' = (W2.drewN n).drewN m) := fun n => by
        have hA : KidsAt (W2.drewN n) w0.heap.size (some ⟨kb, 0, none⟩) x.kids := (hK0.keep (hB0.trans (hB2.mono hz0)) (Nat.le_refl _)).mono hz0
        have hC : KidsAt (W2.drewN n) w0.heap.size ka' x.kids := (hK'.keep hB2 (by omega)).mono (by omega)
        have := ints_quiet (W2.drewN n) w0.heap.size (some ⟨kb, 0, none⟩) ka' x.kids cap0 kc' hA hC (by omega)
        rw [hkl'] at this
        exact this
      rw [hkl'] at q3 e3 mk hkc1
      have p1 := (hB2.cell (p := ⟨W.heap.size, 0, none⟩) s1).trans c1
      have p2 := (hB2.cell (p := ⟨W.heap.size + 1, 0, none⟩) s2).trans c2
      have p3 := (hB2.cell (p := ⟨g, i * 5, none⟩) s3).trans q0
      have p4 := (hB2.cell (p := ⟨g, i * 5 + 1, none⟩) s3).trans q1
      have p5 := (hB2.cell (p := ⟨g, i * 5 + 2, none⟩) s3).trans q2
      have p6 := (hB2.cell (p := ⟨g, i * 5 + 4, none⟩) s3).trans q4
      have p7 : W2.cell? ⟨kb, kl, none⟩ = some (.int .i64 171) := ((hB0.trans (hB2.mono hz0)).cell (p := ⟨kb, kl, none⟩) hkb).trans mk
      have hX2 : W2.heap[w0.heap.size]? = some (.cells #[.int .i64 x.kind, .string x.text, .int .i64 x.num, .slice ka' kl kc', .int .i64 x.at'] 41) := by rw [← hW2]; exact at_a1 w0 _
      obtain ⟨r0, r1, r2, r3, r4⟩ := cells5 hX2
      have t1 : W.heap.size < W2.heap.size := by omega
      have t2 : W.heap.size + 1 < W2.heap.size := by omega
      have t3 : g < W2.heap.size := by omega
      have t4 : w0.heap.size < W2.heap.size := by omega
      have t5 : kb < W2.heap.size := by omega
      have hbl' : b' < w0.heap.size := by omega
      have g1' : (x.kind != x.kind) = false := by simp
      have g2' : (x.text.toList != x.text.toList) = false := by simp
      have g3' : (x.num != x.num) = false := by simp
      have g4' : (x.at' != x.at') = false := by simp
      have hk1 : (kl : Int) + 1 ≤ (cap0 : Int) := by omega
      have HS20 : Hid (W.heap.size + 1 + 1 ≤ w0.heap.size) := (by omega : W.heap.size + 1 + 1 ≤ w0.heap.size)
      have HW2 := hide hW2
      have HB2 := hide hB2
      clear hB2 hB0 hW2 hz2 hX2 hK0 hK' q0 q1 q2 q4 mk
      go_wp2
      rw [unhide HW2]
      clear c1 c2 q3 e0 e1 e2 e3 e4 s1 s2 s3
      go_quiet ((go_at_call 23; exact Calls.quiet_of (unhide HQ _)))
      go_wp2
      exact ⟨⟨i + 1, by omega, by go_num, below_drewN ((unhide HBR).trans ((unhide HB2).mono (unhide HS20))) _⟩, by simp [intOf]; omega⟩
    · have hlt' : ¬ (i : Int) < l.length := by omega
      go_wp2
      go_ret
      exact ⟨rfl, hB0⟩
end Go.Proofs.YtnnpkomedpjlcaaGreatDoor

/- The reference's Check (chapter 5) in general. -/
namespace Go.Proofs.YtnnpkomedpjlcaaGreatDoor
set_option linter.unusedSimpArgs false
set_option linter.unusedVariables false
open Go.RowKit

/-- A kind that the table has is one of those up to 87. -/
theorem kind_le {k : Int} (h : (tabT k).isSome = true) : k ≤ 87 := by
  cases hk : kdR k with
  | false => rw [kd_none hk] at h; cases h
  | true =>
    have := kd_all hk
    simp only [allK, List.mem_cons, List.not_mem_nil, or_false] at this
    omega

set_option maxRecDepth 100000 in
set_option maxHeartbeats 4000000 in
theorem rcheck5_any (W : World) (M : Nat) (v : Value) (l : List Nd) (hN : Nodes W M v l) (hM : M ≤ W.heap.size) (hT : ∀ m, m < l.length → (nd l m).text.size ≤ 1048576) :
    Calls Tryz.prog 9 #[.agg #[v]] W fun e w' => e = .returned (.tuple #[.int .i64 (ccP l).1, .int .i64 (ccP l).2]) ∧ Below W.heap.size W w' := by
  obtain ⟨W1, hW1⟩ : ∃ W1, W.alloc (.cells #[v] 24) = W1 := ⟨_, rfl⟩
  have hB1 : Below W.heap.size W W1 := by rw [← hW1]; exact (Below.refl _ W).alloc (Nat.le_refl _) _
  have hz1 : W1.heap.size = W.heap.size + 1 := by rw [← hW1]; simp
  have hx1 : W1.heap[W.heap.size]? = some (.cells #[v] 24) := by rw [← hW1]; exact World.alloc_heap_new W _
  have HBX : Hid (∀ w', Below W1.heap.size W1 w' → Below W.heap.size W w' ∧ w'.cell? ⟨W.heap.size, 0, none⟩ = some v ∧ W.heap.size < w'.heap.size) := fun w' h =>
    ⟨hB1.trans (h.mono (by omega)), by rw [Lib.cell_of_heap ((h.block _ (by omega)).trans hx1)]; rfl, by have := h.size; omega⟩
  have HC := hide (rcheck_any W1 M v l (hN.keep hB1 hM) (Nat.le_trans hM hB1.size) hT)
  obtain ⟨va, vc, rfl, hvc, _⟩ := hN.len
  have hl1 := hN.1
  by_cases hc : (chkP l).2 = 0
  · have HP : Hid (∀ (w' : World) (i : Nat), Below W1.heap.size W1 w' → i < l.length → Calls Tryz.prog 22 #[.agg #[.slice va l.length vc], .int .i64 (i : Int)] w' fun e w'' => e = .returned (.bool (plainP l i)) ∧ Below w'.heap.size w' w'') := fun w' i h hi => by
      have h1 := (unhide HBX w' h).1
      have hf := chk_all hc hi
      exact plain5_any w' M _ l i (hN.keep h1 hM) (Nat.le_trans hM h1.size) hi (kid_need hf.fit) hf.ins (kind_le (fit_kind hf.fit))
    obtain ⟨c1, hc1⟩ : ∃ c1, (chkP l).1 = c1 := ⟨_, rfl⟩
    rw [hc, hc1] at HC
    have HCC := hide hc
    have HW1 := hide hW1
    clear hN hB1 hW1 hx1 hc hc1
    go_enter Tryz.func9, Tryz.ntmps9
    go_wp2_with (go_at_call 21; rw [unhide HW1]; refine (unhide HC).mono ?_; rintro e w2 ⟨rfl, hB2⟩; have c2 := (unhide HBX w2 hB2).2.1; have s2 := (unhide HBX w2 hB2).2.2)
    have HB2 := hide hB2
    clear hB2
    go_loopw [6] (fun t wr => ∃ i : Nat, i ≤ l.length ∧ t = .int .i64 (i : Int) ∧ (∀ j, j < i → plainP l j = true) ∧ Below W1.heap.size W1 wr) (fun t _ => l.length - (intOf t).toNat)
    case atStart => exact ⟨0, Nat.zero_le _, rfl, fun j hj => by omega, unhide HB2⟩
    case round =>
      obtain ⟨i, hi, rfl, hp, hBr⟩ := hrel
      obtain ⟨_, cr, sr⟩ := unhide HBX wr hBr
      have HBR := hide hBr
      have HPL := hide hp
      clear hBr hp
      by_cases hil : i < l.length
      · have hil' : (i : Int) < (l.length : Int) := by omega
        have HPI := hide (unhide HP wr i (unhide HBR) hil)
        cases hb : plainP l i with
        | true =>
          rw [hb] at HPI
          have HPN : Hid (∀ j, j < i + 1 → plainP l j = true) := fun j hj => by
            by_cases e : j = i
            · subst e; exact hb
            · exact unhide HPL j (by omega)
          clear hb
          go_wp2_with (go_at_call 22; refine (unhide HPI).mono ?_; rintro e w3 ⟨rfl, hB3⟩)
          exact ⟨⟨i + 1, by omega, by go_num, unhide HPN, (unhide HBR).trans (hB3.mono (unhide HBR).size)⟩, by simp [intOf]; omega⟩
        | false =>
          rw [hb] at HPI
          have HR : Hid (ccP l = ((i : Int), 12)) := ccP_at (unhide HCC) hil (unhide HPL) hb
          clear hb
          go_wp2_with (go_at_call 22; refine (unhide HPI).mono ?_; rintro e w3 ⟨rfl, hB3⟩)
          refine bodyPost_ret (results_tmp2 rfl _ _ _) rfl ?_
          exact ⟨by rw [unhide HR]; rfl, (unhide HBX _ ((unhide HBR).trans (hB3.mono (unhide HBR).size))).1⟩
      · have hil' : ¬ (i : Int) < (l.length : Int) := by omega
        have HR : Hid (ccP l = (-1, 0)) := ccP_all (unhide HCC) (fun j hj => unhide HPL j (by omega))
        go_wp2
        refine bodyPost_ret (results_tmp2 rfl _ _ _) rfl ?_
        exact ⟨by rw [unhide HR]; rfl, (unhide HBX _ (unhide HBR)).1⟩
  · have HR : Hid (ccP l = chkP l) := ccP_bad hc
    have hc' : ((chkP l).2 != 0) = true := by simpa using hc
    obtain ⟨c1, hc1⟩ : ∃ c1, (chkP l).1 = c1 := ⟨_, rfl⟩
    obtain ⟨c2, hc2⟩ : ∃ c2, (chkP l).2 = c2 := ⟨_, rfl⟩
    rw [hc1, hc2] at HC
    rw [hc2] at hc'
    have HW1 := hide hW1
    clear hN hB1 hW1 hx1 hc
    go_enter Tryz.func9, Tryz.ntmps9
    go_wp2_with (go_at_call 21; rw [unhide HW1]; refine (unhide HC).mono ?_; rintro e w2 ⟨rfl, hB2⟩)
    refine bodyPost_ret (results_tmp2 rfl _ _ _) rfl ?_
    exact ⟨by rw [unhide HR, hc1, hc2]; rfl, (unhide HBX w2 hB2).1⟩
end Go.Proofs.YtnnpkomedpjlcaaGreatDoor

/- The law CoreChecks, walked. -/
namespace Go.Proofs.YtnnpkomedpjlcaaGreatDoor
set_option linter.unusedSimpArgs false
set_option linter.unusedVariables false
open Go.RowKit Go.Shelf

theorem KidS.kidO {W : World} {B : Nat} {e : NE} (h : KidS W B e) : KidO W B e := by
  obtain ⟨kb, cur, ha, hb, hh, hj, _, hc1, hc2⟩ := h
  exact ⟨by omega, hc2, .inr ⟨kb, cur, ha, hb, hh, hj⟩⟩
theorem KidS.below {W W' : World} {B : Nat} {e : NE} (h : KidS W B e) (hB : Below W.heap.size W W') : KidS W' B e := by
  obtain ⟨kb, cur, ha, hb, hh, r⟩ := h
  exact ⟨kb, cur, ha, hb, (hB.block kb (Array.getElem?_eq_some_iff.1 hh).1).trans hh, r⟩
/-- What was lent, as a row of nodes of one's own. -/
theorem lent_own {w : World} {B g cap : Nat} {es : List NE} {m : NE} (h : w.ownsRow B 41 5 (.slice (some ⟨g, 0, none⟩) (es.length + 1) cap) (es.length + 1) (flatN es ++ cellN m)) (hk : ∀ e ∈ es, KidS w B e) : OwnN w B (.slice (some ⟨g, 0, none⟩) es.length cap) es := by
  refine ⟨⟨flatN_len es, ?_⟩, fun e he => (hk e he).kidO⟩
  rcases h.2 with ⟨h0, _⟩ | ⟨g', cap', cur, h0, hb, hh, hc, hm, hs, ht⟩
  · cases h0
  · injection h0 with h1 _ h3
    injection h1 with h1
    injection h1 with h1 _ _
    subst h1
    subst h3
    refine .inr ⟨g, cap, cur, rfl, hb, hh, by omega, hm, hs, ?_⟩
    have e1 : cur.toList.take (es.length * 5) = (cur.toList.take ((es.length + 1) * 5)).take (es.length * 5) := by rw [List.take_take]; congr 1; omega
    rw [e1, ht, List.take_append_of_le_length (by rw [flatN_len]; exact Nat.le_refl _), List.take_of_length_le (by rw [flatN_len]; exact Nat.le_refl _)]
theorem lents_any (W : World) (M : Nat) (v : Value) (l : List Nd) (hN : Nodes W M v l) (hM : M ≤ W.heap.size) (hsz : szN l l.length ≤ 3000) : Calls Tryz.prog 7 #[.agg #[v]] W (LentS l W) := by
  by_cases h : l = []
  · subst h
    obtain ⟨a, cap, rfl, _, _⟩ := hN.len
    exact lents_nil W a cap
  · exact lents_cons W M v l hN hM hsz h
/-- Trees whose nodes are small. -/
def Smal (L : List Nd) : Prop := L.length ≤ 3000 ∧ ∀ x ∈ L, x.text.size ≤ 3000 ∧ x.kids.length ≤ 3000
theorem Smal.of {l : List Nd} (h : szN l l.length ≤ 3000) : Smal l := by
  refine ⟨Nat.le_trans (szN_len l l.length) h, fun x hx => ?_⟩
  obtain ⟨j, hj⟩ := List.getElem?_of_mem hx
  have hjl := (List.getElem?_eq_some_iff.1 hj).1
  have h1 := szN_at l hjl
  have h2 : nd l j = x := by simp [nd, List.getD_eq_getElem?_getD, hj]
  rw [h2] at h1
  omega
theorem OwnN.nodesS {W : World} {B : Nat} {v : Value} {es : List NE} (h : OwnN W B v es) {L : List Nd} (he : es.map NE.x = L) (hs : Smal L) : Nodes W W.heap.size v L := by
  subst he
  have h1 := hs.1
  simp only [List.length_map] at h1
  refine h.nodes (by omega) fun e he => ?_
  have := hs.2 e.x (List.mem_map_of_mem he)
  omega
/-- A box behind all that lies. -/
theorem box_cell {w w' : World} {u : Value} {t : TypeId} {N : Nat} (hN : (w.alloc (.cells #[u] t)).heap.size ≤ N) (h : Below N (w.alloc (.cells #[u] t)) w') : w'.cell? ⟨w.heap.size, 0, none⟩ = some u := by
  have h1 : (w.alloc (.cells #[u] t)).heap[w.heap.size]? = some (.cells #[u] t) := World.alloc_heap_new w _
  have h2 : w.heap.size < N := by simp at hN; omega
  rw [Lib.cell_of_heap ((h.block _ h2).trans h1)]; rfl

/-- Behind lent: what stays, whatever is laid behind. -/
theorem lent3 (W W1 w2 W3 w1 : World) (M : Nat) (a : Option Addr) (cap : Nat) (l : List Nd) (hN : Nodes W M (.slice a l.length cap) l) (hM : M ≤ W.heap.size) (hs : Smal l) (hW1 : W.alloc (.cells #[.slice a l.length cap] 24) = W1) (hb1 : Below W1.heap.size W1 w1) (g cx : Nat) (es : List NE) (hmap : es.map NE.x = l)
    (hown : w2.ownsRow (w1.heap.size + 1 + 1) 41 5 (.slice (some ⟨g, 0, none⟩) (l.length + 1) cx) (l.length + 1) (flatN es ++ cellN markN)) (hks : ∀ e ∈ es, KidS w2 (w1.heap.size + 1 + 1) e) (hb2 : Below w1.heap.size w1 w2) (hW3 : w2.alloc (.cells #[.slice (some ⟨g, 0, none⟩) l.length cx] 24) = W3) :
    ∀ w', Below W3.heap.size W3 w' → Below W.heap.size W w' ∧ w'.cell? ⟨W.heap.size, 0, none⟩ = some (.slice a l.length cap) ∧ w'.cell? ⟨w2.heap.size, 0, none⟩ = some (.slice (some ⟨g, 0, none⟩) l.length cx) ∧ W.heap.size < w'.heap.size ∧ w2.heap.size < w'.heap.size ∧ Nodes w' w'.heap.size (.slice (some ⟨g, 0, none⟩) l.length cx) l ∧ Nodes w' M (.slice a l.length cap) l ∧
      Calls Tryz.prog 10 #[.agg #[.slice (some ⟨g, 0, none⟩) l.length cx], .agg #[.slice a l.length cap]] w' fun e w'' => e = .returned (.bool true) ∧ Below w'.heap.size w' w'' := fun w' h => by
  have hz1 : W1.heap.size = W.heap.size + 1 := by rw [← hW1]; simp
  have hz3 : W3.heap.size = w2.heap.size + 1 := by rw [← hW3]; simp
  have hz2 := hb2.size
  have hz11 := hb1.size
  have hzw := h.size
  have hB1 : Below W.heap.size W W1 := by rw [← hW1]; exact (Below.refl _ W).alloc (Nat.le_refl _) _
  have hB23 : Below w2.heap.size w2 W3 := by rw [← hW3]; exact (Below.refl _ w2).alloc (Nat.le_refl _) _
  have hB2w : Below w2.heap.size w2 w' := hB23.trans (h.mono (by omega))
  have hB1w : Below W1.heap.size W1 w' := hb1.trans ((hb2.trans (hB2w.mono hz2)).mono hz11)
  have hBw : Below W.heap.size W w' := hB1.trans (hB1w.mono (by omega))
  have hel : es.length = l.length := by rw [← hmap]; simp
  have hNv := hN.keep hBw hM
  have hown' := ownsRow_heap hown fun k hk => hB2w.block k (hown.lt k hk).2
  have hks' : ∀ e ∈ es, KidS w' (w1.heap.size + 1 + 1) e := fun e he => (hks e he).below hB2w
  have hm : ∀ m, m < l.length → nd l m ∈ l := fun m hm => by
    have : nd l m = l[m] := by simp [nd, List.getD_eq_getElem?_getD, List.getElem?_eq_getElem hm]
    rw [this]; exact List.getElem_mem hm
  refine ⟨hBw, ?_, ?_, by omega, by omega, ?_, hNv, ?_⟩
  · subst hW1; exact box_cell (Nat.le_refl _) hB1w
  · subst hW3; exact box_cell (Nat.le_refl _) h
  · have ho := lent_own (g := g) (cap := cx) (by rw [hel]; exact hown') hks'
    rw [hel] at ho
    exact ho.nodesS hmap hs
  · exact back_any w' M _ g cx _ l es hNv (by omega) hmap hown' hks' (by have := hs.1; omega) fun m h => by have := (hs.2 _ (hm m h)).2; omega

set_option maxRecDepth 100000 in
set_option maxHeartbeats 4000000 in
theorem checks5_law (W : World) (M : Nat) (v : Value) (l : List Nd) (hN : NodesR W M v l) (hM : M ≤ W.heap.size) :
    Calls Tryz.prog 3 #[.agg #[v]] W fun e w' => e = .returned (.bool true) ∧ Below W.heap.size W w' := by
  obtain ⟨W1, hW1⟩ : ∃ W1, W.alloc (.cells #[v] 24) = W1 := ⟨_, rfl⟩
  have hB1 : Below W.heap.size W W1 := by rw [← hW1]; exact (Below.refl _ W).alloc (Nat.le_refl _) _
  have hz1 : W1.heap.size = W.heap.size + 1 := by rw [← hW1]; simp
  have HBX : Hid (∀ w', Below W1.heap.size W1 w' → Below W.heap.size W w' ∧ w'.cell? ⟨W.heap.size, 0, none⟩ = some v ∧ W.heap.size < w'.heap.size) := fun w' h =>
    ⟨hB1.trans (h.mono (by omega)), by subst hW1; exact box_cell (Nat.le_refl _) h, by have := h.size; omega⟩
  have HG := hide (great_reach W1 M v l (hN.keep hB1 hM) (Nat.le_trans hM hB1.size))
  obtain ⟨a, cap, rfl, _, _⟩ := hN.len
  cases ha : decide (3000 < szN l l.length) with
  | true =>
    rw [ha] at HG
    have HW1 := hide hW1
    clear ha hN hB1 hW1 hz1
    go_enter Tryz.func3, Tryz.ntmps3
    go_wp2_with (go_at_call 6; rw [unhide HW1]; refine (unhide HG).mono ?_; rintro e w2 ⟨rfl, hB2⟩)
    go_ret
    exact ⟨rfl, (unhide HBX w2 hB2).1⟩
  | false =>
    have hal : szN l l.length ≤ 3000 := by simpa using ha
    have hNn := hN.nodes hal
    have hs := Smal.of hal
    have hm : ∀ m, m < l.length → nd l m ∈ l := fun m hm => by
      have : nd l m = l[m] := by simp [nd, List.getD_eq_getElem?_getD, List.getElem?_eq_getElem hm]
      rw [this]; exact List.getElem_mem hm
    have hT : ∀ m, m < l.length → (nd l m).text.size ≤ 1048576 := fun m h => by have := (hs.2 _ (hm m h)).1; omega
    rw [ha] at HG
    have HL : Hid (∀ w', Below W1.heap.size W1 w' → Calls Tryz.prog 7 #[.agg #[.slice a l.length cap]] w' (LentS l w')) := fun w' h => by
      have h1 := (unhide HBX w' h).1
      exact lents_any w' M _ l (hNn.keep h1 hM) (Nat.le_trans hM h1.size) hal
    have H3 : Hid (∀ (w1 w2 W3 : World) (g cx : Nat) (es : List NE), Below W1.heap.size W1 w1 → _) := fun w1 w2 W3 g cx es hb1 => lent3 W W1 w2 W3 w1 M a cap l hNn hM hs hW1 hb1 g cx es
    have HT := hide hT
    have HW1 := hide hW1
    obtain ⟨c1, hc1⟩ : ∃ c1, (ccP l).1 = c1 := ⟨_, rfl⟩
    obtain ⟨c2, hc2⟩ : ∃ c2, (ccP l).2 = c2 := ⟨_, rfl⟩
    have HC : Hid (∀ w' M' v', Nodes w' M' v' l → M' ≤ w'.heap.size → Calls Tryz.prog 8 #[.agg #[v']] w' fun e w'' => e = .returned (.tuple #[.int .i64 c1, .int .i64 c2]) ∧ Below w'.heap.size w' w'') := fun w' M' v' h1 h2 => by
      have := core_any w' M' v' l h1 h2
      rw [hc1, hc2] at this
      exact this
    have HR : Hid (∀ w' M' v', Nodes w' M' v' l → M' ≤ w'.heap.size → Calls Tryz.prog 9 #[.agg #[v']] w' fun e w'' => e = .returned (.tuple #[.int .i64 c1, .int .i64 c2]) ∧ Below w'.heap.size w' w'') := fun w' M' v' h1 h2 => by
      have := rcheck5_any w' M' v' l h1 h2 (unhide HT)
      rw [hc1, hc2] at this
      exact this
    have e1 : (c1 == c1) = true := by simp
    have e2 : (c2 == c2) = true := by simp
    clear ha hN hNn hB1 hW1 hz1 hs hm hT hc1 hc2
    go_enter Tryz.func3, Tryz.ntmps3
    go_wp2_with (first
      | (go_at_call 6
         rw [unhide HW1]
         refine (unhide HG).mono ?_
         rintro e w1 ⟨rfl, hB1⟩
         have x1 := (unhide HBX w1 hB1).2.1
         have x2 := (unhide HBX w1 hB1).2.2
         have HB1 := hide hB1
         clear hB1)
      | (go_at_call 7
         refine (unhide HL w1 (unhide HB1)).mono ?_
         rintro e w2 ⟨g, cx, es, rfl, hmap, hown, hks, hb2⟩
         obtain ⟨W3, hW3⟩ : ∃ W3, w2.alloc (.cells #[.slice (some ⟨g, 0, none⟩) l.length cx] 24) = W3 := ⟨_, rfl⟩
         have H3' := hide (unhide H3 w1 w2 W3 g cx es (unhide HB1) hmap hown hks hb2 hW3)
         have HW3 := hide hW3
         clear hmap hown hks hb2 hW3 x1 x2)
      | (go_at_call 8
         rw [unhide HW3]
         refine (unhide HC W3 _ _ (unhide H3' W3 (Below.refl _ _)).2.2.2.2.2.1 (Nat.le_refl _)).mono ?_
         rintro e w4 ⟨rfl, hb4⟩
         have x1 := (unhide H3' w4 hb4).2.1
         have x2 := (unhide H3' w4 hb4).2.2.2.1
         have HB4 := hide hb4
         clear hb4)
      | (go_at_call 9
         refine (unhide HR w4 _ _ (unhide H3' w4 (unhide HB4)).2.2.2.2.2.2.1 (Nat.le_trans hM (unhide H3' w4 (unhide HB4)).1.size)).mono ?_
         rintro e w5 ⟨rfl, hb5⟩
         have hb35 := (unhide HB4).trans (hb5.mono (unhide HB4).size)
         have y1 := (unhide H3' w5 hb35).2.1
         have y2 := (unhide H3' w5 hb35).2.2.1
         have y3 := (unhide H3' w5 hb35).2.2.2.1
         have y4 := (unhide H3' w5 hb35).2.2.2.2.1
         have HK5 := hide (unhide H3' w5 hb35).2.2.2.2.2.2.2
         have HB5 := hide (unhide H3' w5 hb35).1
         clear hb5 hb35 x1 x2)
      | (go_at_call 10
         refine (unhide HK5).mono ?_
         rintro e w6 ⟨rfl, hb6⟩
         have HB6 := hide ((unhide HB5).trans (hb6.mono (unhide HB5).size))
         clear hb6)
      | (go_at_call 11
         refine (known5_any _).mono ?_
         rintro e w7 ⟨rfl, hb7⟩))
    go_ret
    exact ⟨rfl, (unhide HB6).trans (hb7.mono (unhide HB6).size)⟩
end Go.Proofs.YtnnpkomedpjlcaaGreatDoor

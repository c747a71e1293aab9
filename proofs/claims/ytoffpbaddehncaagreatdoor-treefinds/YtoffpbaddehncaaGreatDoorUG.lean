/- Rows of nodes as long as a call can reach; shucklaw3.great over them. -/
import Derived.LoopN
import Derived.BigQuiet
import Derived.Test.YtoffpbaddehncaaGreatDoorTV
namespace Go.Proofs.YtoffpbaddehncaaGreatDoor
set_option linter.unusedSimpArgs false
set_option linter.unusedVariables false
open Go.RowKit Go.Shelf

/-- A row of nodes, its texts as long as a call can reach. -/
def NodesR (W : World) (M : Nat) (v : Value) (l : List Nd) : Prop :=
  l.length ≤ 2199023255552 ∧ (∀ j, j < l.length → (nd l j).text.size ≤ 140737488351232 ∧ (nd l j).kids.length ≤ 17592186044416) ∧
  ∃ a cap, v = .slice a l.length cap ∧ l.length ≤ cap ∧ cap ≤ maxLen ∧ (l = [] ∨ ∃ b o, a = some ⟨b, o, none⟩ ∧ b < M ∧ ∀ j, j < l.length → NdAt W M b (o + j * 5) (nd l j))
theorem NodesR.keep {W W' : World} {M N : Nat} {v : Value} {l : List Nd} (h : NodesR W M v l) (hB : Below N W W') (hn : M ≤ N) : NodesR W' M v l := by
  obtain ⟨hl, hs, a, cap, hv, hc, hm, h⟩ := h
  refine ⟨hl, hs, a, cap, hv, hc, hm, ?_⟩
  rcases h with h | ⟨b, o, ha, hb, h⟩
  · exact .inl h
  · exact .inr ⟨b, o, ha, hb, fun j hj => (h j hj).keep hb hB hn⟩
theorem NodesR.len {W : World} {M : Nat} {v : Value} {l : List Nd} (h : NodesR W M v l) : ∃ a cap, v = .slice a l.length cap ∧ l.length ≤ cap ∧ cap ≤ maxLen := by
  obtain ⟨_, _, a, cap, hv, hc, hm, _⟩ := h
  exact ⟨a, cap, hv, hc, hm⟩
theorem NodesR.at {W : World} {M : Nat} {v : Value} {l : List Nd} (h : NodesR W M v l) {n : Nat} (hn : n < l.length) :
    ∃ b o cap ka kc, v = .slice (some ⟨b, o, none⟩) l.length cap ∧ l.length ≤ cap ∧ cap ≤ maxLen ∧ b < M ∧ W.cell? ⟨b, o + n * 5, none⟩ = some (.int .i64 (nd l n).kind) ∧ W.cell? ⟨b, o + n * 5 + 1, none⟩ = some (.string (nd l n).text) ∧ W.cell? ⟨b, o + n * 5 + 2, none⟩ = some (.int .i64 (nd l n).num) ∧
      W.cell? ⟨b, o + n * 5 + 3, none⟩ = some (.slice ka (nd l n).kids.length kc) ∧ W.cell? ⟨b, o + n * 5 + 4, none⟩ = some (.int .i64 (nd l n).at') ∧ (nd l n).kids.length ≤ kc ∧ kc ≤ maxLen ∧ KidsAt W M ka (nd l n).kids := by
  obtain ⟨hl, hs, a, cap, rfl, hc, hm, h⟩ := h
  rcases h with rfl | ⟨b, o, rfl, hb, h⟩
  · simp at hn
  · obtain ⟨h0, h1, h2, ⟨ka, kc, h3, hkc, hkm, hk⟩, h4⟩ := h n hn
    exact ⟨b, o, cap, ka, kc, rfl, hc, hm, hb, h0, h1, h2, h3, h4, hkc, hkm, hk⟩
/-- What is not great is a row of nodes. -/
theorem NodesR.nodes {W : World} {M : Nat} {v : Value} {l : List Nd} (h : NodesR W M v l) (hs : szN l l.length ≤ 3000) : Nodes W M v l :=
  ⟨h.1, fun j hj => by have := szN_at l hj; exact ⟨by omega, by omega⟩, h.2.2⟩

set_option maxRecDepth 100000 in
set_option maxHeartbeats 2000000 in
theorem great_reach (W : World) (M : Nat) (v : Value) (l : List Nd) (hN : NodesR W M v l) (hM : M ≤ W.heap.size) :
    Calls Tryz.prog 9 #[.agg #[v]] W fun e w' => e = .returned (.bool (decide (3000 < szN l l.length))) ∧ Below W.heap.size W w' := by
  have HN := hide hN
  have hl1 := hN.1
  obtain ⟨a, cap, rfl, _, _⟩ := hN.len
  clear hN
  have HB0 := hide ((Below.refl W.heap.size W).alloc (Nat.le_refl _) (.cells #[.slice a l.length cap] 24))
  go_enter Tryz.func9, Tryz.ntmps9
  go_wp2
  go_loopw [3, 4] (fun t3 t wr => ∃ (i n : Nat), i ≤ l.length ∧ t = .int .i64 (i : Int) ∧ t3 = .int .i64 (n : Int) ∧ n = szN l i ∧ n ≤ 200000000000000 ∧ Below (W.heap.size + 1) (W.alloc (.cells #[.slice a l.length cap] 24)) wr) (fun _ t _ => l.length - (intOf t).toNat)
  case atStart => exact ⟨0, 0, Nat.zero_le _, rfl, rfl, rfl, by omega, Below.refl _ _⟩
  case round =>
    obtain ⟨i, n, hi, rfl, rfl, hn, hnb, hBr⟩ := hrel
    have cx := one_box _ _ hBr
    have hwr := hBr.size
    simp only [World.size_alloc] at hwr
    have hs1 : W.heap.size < wr.heap.size := by omega
    have hB : Below W.heap.size W wr := (unhide HB0).trans (hBr.mono (by omega))
    have HBR := hide hBr
    have HNN := hide hn
    clear hBr hn
    by_cases hil : i < l.length
    · have hil' : (i : Int) < l.length := by omega
      by_cases h3 : n ≤ 3000
      · have h3' : (n : Int) ≤ 3000 := by omega
        obtain ⟨b, o, cap0, ka, kc, hv, _, _, hb, d0, d1, d2, d3, d4, _, _, _⟩ := ((unhide HN).keep hB hM).at hil
        cases hv
        have hkl := ((unhide HN).2.1 i hil).2
        have htl := ((unhide HN).2.1 i hil).1
        have hbl : b < wr.heap.size := by omega
        obtain ⟨x, hx⟩ : ∃ x, nd l i = x := ⟨_, rfl⟩
        rw [hx] at d0 d1 d2 d3 d4 hkl htl
        have HX := hide hx
        clear hx
        go_wp2
        go_quiet (fail)
        go_wp2
        refine ⟨⟨i + 1, n + 1 + x.kids.length + x.text.size, by omega, by go_num, by go_num, ?_, by omega, below_drewN (unhide HBR) _⟩, by simp [intOf]; omega⟩
        show _ = szN l i + 1 + (nd l i).kids.length + (nd l i).text.size
        rw [unhide HX, unhide HNN]
      · have h3' : ¬ (n : Int) ≤ 3000 := by omega
        have h3'' : (3000 : Int) < n := by omega
        have HF : Hid (decide (3000 < szN l l.length) = true) := decide_eq_true (by have := szN_le l hi; have := unhide HNN; omega)
        go_wp2
        go_ret
        exact ⟨show Ending.returned (.bool true) = _ from ret_b (unhide HF).symm, hB⟩
    · have hil' : ¬ (i : Int) < l.length := by omega
      obtain rfl : i = l.length := by omega
      have HF : Hid (decide (3000 < szN l l.length) = decide ((3000 : Int) < n)) := by
        show decide (3000 < szN l l.length) = decide ((3000 : Int) < n)
        rw [decide_eq_decide, ← unhide HNN]; omega
      go_wp2
      go_ret
      exact ⟨ret_b (unhide HF).symm, hB⟩
end Go.Proofs.YtoffpbaddehncaaGreatDoor

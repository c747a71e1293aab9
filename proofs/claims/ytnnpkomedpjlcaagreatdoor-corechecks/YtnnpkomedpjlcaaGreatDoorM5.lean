/- Nodes as long as a call reaches; a tree that came in, opened. -/
import Derived.BigQuiet
import Derived.ChangeOld
import Derived.LaidMore
import Derived.LoopN
import Derived.OpenShut
import Derived.ProofKit
import Derived.ShutString
import Derived.SizedLaws
import Derived.Stop.Joined
import Derived.Test.YtnnpkomedpjlcaaGreatDoorM4
import Derived.Test.YtnnpkomedpjlcaaGreatDoorTie
/- Rows of nodes as long as a call can reach; shucklaw3.great over them. -/
namespace Go.Proofs.YtnnpkomedpjlcaaGreatDoor
set_option linter.unusedSimpArgs false
set_option linter.unusedVariables false
open Go.RowKit Go.Shelf

/-- A row of nodes, its texts as long as a call can reach. -/
def NodesR (W : World) (M : Nat) (v : Value) (l : List Nd) : Prop :=
  l.length ≤ 2199023255552 ∧ (∀ j, j < l.length → (nd l j).text.size ≤ 140737488351232 ∧ (nd l j).kids.length ≤ 17592186044416) ∧
  ∃ a cap, v = .slice a l.length cap ∧ l.length ≤ cap ∧ cap ≤ maxLen ∧ (l = [] ∨ ∃ b o, a = some ⟨b, o, none⟩ ∧ b < M ∧ ∀ j, j < l.length → NdAt W M b (o + j * 5) (nd l j))
theorem NodesR.keep {W W' : World} {M N : Nat} {v : Value} {l : List Nd} (h : NodesR W M v l) (hB : Below N W W') (hn : M ≤ N) : NodesR W' M v l := by
  obtain ⟨hl, hs, a, cap, hv, hc, hm, h⟩ := h
  refine ⟨hl, hs, a, cap, hv, hc, hm, ?_⟩
  rcases h with h | ⟨b, o, ha, hb, h⟩
  · exact .inl h
  · exact .inr ⟨b, o, ha, hb, fun j hj => (h j hj).keep hb hB hn⟩
theorem NodesR.len {W : World} {M : Nat} {v : Value} {l : List Nd} (h : NodesR W M v l) : ∃ a cap, v = .slice a l.length cap ∧ l.length ≤ cap ∧ cap ≤ maxLen := by
  obtain ⟨_, _, a, cap, hv, hc, hm, _⟩ := h
  exact ⟨a, cap, hv, hc, hm⟩
theorem NodesR.at {W : World} {M : Nat} {v : Value} {l : List Nd} (h : NodesR W M v l) {n : Nat} (hn : n < l.length) :
    ∃ b o cap ka kc, v = .slice (some ⟨b, o, none⟩) l.length cap ∧ l.length ≤ cap ∧ cap ≤ maxLen ∧ b < M ∧ W.cell? ⟨b, o + n * 5, none⟩ = some (.int .i64 (nd l n).kind) ∧ W.cell? ⟨b, o + n * 5 + 1, none⟩ = some (.string (nd l n).text) ∧ W.cell? ⟨b, o + n * 5 + 2, none⟩ = some (.int .i64 (nd l n).num) ∧
      W.cell? ⟨b, o + n * 5 + 3, none⟩ = some (.slice ka (nd l n).kids.length kc) ∧ W.cell? ⟨b, o + n * 5 + 4, none⟩ = some (.int .i64 (nd l n).at') ∧ (nd l n).kids.length ≤ kc ∧ kc ≤ maxLen ∧ KidsAt W M ka (nd l n).kids := by
  obtain ⟨hl, hs, a, cap, rfl, hc, hm, h⟩ := h
  rcases h with rfl | ⟨b, o, rfl, hb, h⟩
  · simp at hn
  · obtain ⟨h0, h1, h2, ⟨ka, kc, h3, hkc, hkm, hk⟩, h4⟩ := h n hn
    exact ⟨b, o, cap, ka, kc, rfl, hc, hm, hb, h0, h1, h2, h3, h4, hkc, hkm, hk⟩
/-- What is not great is a row of nodes. -/
theorem NodesR.nodes {W : World} {M : Nat} {v : Value} {l : List Nd} (h : NodesR W M v l) (hs : szN l l.length ≤ 3000) : Nodes W M v l :=
  ⟨h.1, fun j hj => by have := szN_at l hj; exact ⟨by omega, by omega⟩, h.2.2⟩

set_option maxRecDepth 100000 in
set_option maxHeartbeats 2000000 in
theorem great_reach (W : World) (M : Nat) (v : Value) (l : List Nd) (hN : NodesR W M v l) (hM : M ≤ W.heap.size) :
    Calls Tryz.prog 6 #[.agg #[v]] W fun e w' => e = .returned (.bool (decide (3000 < szN l l.length))) ∧ Below W.heap.size W w' := by
  have HN := hide hN
  have hl1 := hN.1
  obtain ⟨a, cap, rfl, _, _⟩ := hN.len
  clear hN
  have HB0 := hide ((Below.refl W.heap.size W).alloc (Nat.le_refl _) (.cells #[.slice a l.length cap] 24))
  go_enter Tryz.func6, Tryz.ntmps6
  go_wp2
  go_loopw [3, 4] (fun t3 t wr => ∃ (i n : Nat), i ≤ l.length ∧ t = .int .i64 (i : Int) ∧ t3 = .int .i64 (n : Int) ∧ n = szN l i ∧ n ≤ 200000000000000 ∧ Below (W.heap.size + 1) (W.alloc (.cells #[.slice a l.length cap] 24)) wr) (fun _ t _ => l.length - (intOf t).toNat)
  case atStart => exact ⟨0, 0, Nat.zero_le _, rfl, rfl, rfl, by omega, Below.refl _ _⟩
  case round =>
    obtain ⟨i, n, hi, rfl, rfl, hn, hnb, hBr⟩ := hrel
    have cx := one_box _ _ hBr
    have hwr := hBr.size
    simp only [World.size_alloc] at hwr
    have hs1 : W.heap.size < wr.heap.size := by omega
    have hB : Below W.heap.size W wr := (unhide HB0).trans (hBr.mono (by omega))
    have HBR := hide hBr
    have HNN := hide hn
    clear hBr hn
    by_cases hil : i < l.length
    · have hil' : (i : Int) < l.length := by omega
      by_cases h3 : n ≤ 3000
      · have h3' : (n : Int) ≤ 3000 := by omega
        obtain ⟨b, o, cap0, ka, kc, hv, _, _, hb, d0, d1, d2, d3, d4, _, _, _⟩ := ((unhide HN).keep hB hM).at hil
        cases hv
        have hkl := ((unhide HN).2.1 i hil).2
        have htl := ((unhide HN).2.1 i hil).1
        have hbl : b < wr.heap.size := by omega
        obtain ⟨x, hx⟩ : ∃ x, nd l i = x := ⟨_, rfl⟩
        rw [hx] at d0 d1 d2 d3 d4 hkl htl
        have HX := hide hx
        clear hx
        go_wp2
        go_quiet (fail)
        go_wp2
        refine ⟨⟨i + 1, n + 1 + x.kids.length + x.text.size, by omega, by go_num, by go_num, ?_, by omega, below_drewN (unhide HBR) _⟩, by simp [intOf]; omega⟩
        show _ = szN l i + 1 + (nd l i).kids.length + (nd l i).text.size
        rw [unhide HX, unhide HNN]
      · have h3' : ¬ (n : Int) ≤ 3000 := by omega
        have h3'' : (3000 : Int) < n := by omega
        have HF : Hid (decide (3000 < szN l l.length) = true) := decide_eq_true (by have := szN_le l hi; have := unhide HNN; omega)
        go_wp2
        go_ret
        exact ⟨show Ending.returned (.bool true) = _ from ret_b (unhide HF).symm, hB⟩
    · have hil' : ¬ (i : Int) < l.length := by omega
      obtain rfl : i = l.length := by omega
      have HF : Hid (decide (3000 < szN l l.length) = decide ((3000 : Int) < n)) := by
        show decide (3000 < szN l l.length) = decide ((3000 : Int) < n)
        rw [decide_eq_decide, ← unhide HNN]; omega
      go_wp2
      go_ret
      exact ⟨ret_b (unhide HF).symm, hB⟩
end Go.Proofs.YtnnpkomedpjlcaaGreatDoor

/- What a law is told of a tree that came in. -/
namespace Go.Proofs.YtnnpkomedpjlcaaGreatDoor
set_option linter.unusedSimpArgs false
set_option linter.unusedVariables false
open Go.ChangeShapes Go.WideShapes Go.ChangeAt Go.RowKit

theorem ex_list {α : Type} (d : α) {P : Nat → α → Prop} : ∀ n, (∀ j, j < n → ∃ k, P j k) → ∃ ks : List α, ks.length = n ∧ ∀ j, j < n → P j (ks.getD j d)
  | 0, _ => ⟨[], rfl, fun j h => by omega⟩
  | n + 1, h => by
    obtain ⟨ks, hl, hk⟩ := ex_list d n fun j hj => h j (by omega)
    obtain ⟨k, hkn⟩ := h n (by omega)
    refine ⟨ks ++ [k], by simp [hl], fun j hj => ?_⟩
    by_cases e : j = n
    · subst e
      rw [List.getD_eq_getElem?_getD, List.getElem?_append_right (by omega), hl]
      simpa using hkn
    · have := hk j (by omega)
      rw [List.getD_eq_getElem?_getD, List.getElem?_append_left (by omega), ← List.getD_eq_getElem?_getD]
      exact this

/-- What a call can reach. -/
def Light {H : Type} (t : TypeId) (d : DataW H) : Prop := ∀ n ∈ d.weights Tryz.prog t, n ≤ 140737488351232

set_option maxRecDepth 100000 in
theorem kids_of_trod {H : Type} {enc : TypeId × Value → H} {W : World} {base : Nat} {sp : Nat → Bool} {held : Bool} {fuel : Nat} {v : Value} {x : DataW H × List MemPlace} (hf : DataW.trod enc Tryz.prog W base sp held fuel 39 [v] = some x) (hL : Light 39 x.1) :
    ∃ (ks : List Int) (a : Option Addr) (c : Nat), v = .slice a ks.length c ∧ ks.length ≤ c ∧ c ≤ maxLen ∧ ks.length ≤ 17592186044416 ∧ KidsAt W W.heap.size a ks := by
  have c3 : Tryz.prog.cellsOf 3 = 1 := by kernel_rfl
  have b3 : Tryz.prog.bytesOf 3 = 8 := by kernel_rfl
  rcases DataW.trod_slice Tryz.underlying39 hf with ⟨h0, _⟩ | ⟨a, len, cap, elems, rest, n, _, hcs, hx, _, hl, hm, hlen, hel, _, _⟩
  · simp at h0
    exact ⟨[], none, 0, h0, Nat.le_refl _, Nat.zero_le _, Nat.zero_le _, .inl rfl⟩
  · simp at hcs
    subst hcs
    have hw : (elems.length + rest.length) * 8 ≤ 140737488351232 := by
      refine hL _ ?_
      rw [hx]
      simp [DataW.weights, Tryz.underlying39, b3]
    rw [c3] at hel
    have raw : ∀ j, j < len → ∃ k : Int, W.cells? base (a.add (j * 1)) 1 = some [.int .i64 k] := by
      intro j hj
      have h1 := hel j hj
      rw [List.getElem?_eq_getElem (by omega), Option.bind_eq_some_iff] at h1
      obtain ⟨cs, h2, h3⟩ := h1
      obtain ⟨k, rfl, _⟩ := DataW.trod_int Tryz.underlying3 h3
      exact ⟨k, h2⟩
    obtain ⟨ks, hkl, hk⟩ := ex_list (0 : Int) len raw
    subst hkl
    refine ⟨ks, some a, cap, rfl, hl, hm, by omega, ?_⟩
    by_cases h0 : ks = []
    · exact .inl h0
    have hpos : 0 < ks.length := List.length_pos_iff.2 h0
    obtain ⟨b, off, spot⟩ := a
    have hspot : spot = none := by
      simpa [Addr.add] using World.cell?_spot ((World.cells?_some (hk 0 hpos)).2.2 0 (by simp))
    subst hspot
    have hb : b < W.heap.size := by simpa [Addr.add] using World.cells?_block (hk 0 hpos) (by omega)
    refine .inr ⟨b, off, rfl, hb, fun j hj => ?_⟩
    have q := (World.cells?_some (hk j hj)).2.2 0 (by simp)
    rw [Addr.add_lit, Addr.add_lit] at q
    simpa using q

set_option maxRecDepth 100000 in
theorem node_of_trod {H : Type} {enc : TypeId × Value → H} {W : World} {base : Nat} {sp : Nat → Bool} {held : Bool} {fuel : Nat} {cs : List Value} {x : DataW H × List MemPlace} (hf : DataW.trod enc Tryz.prog W base sp held fuel 41 cs = some x) (hL : Light 41 x.1) :
    ∃ (y : Nd) (a : Option Addr) (c : Nat), cs = [.int .i64 y.kind, .string y.text, .int .i64 y.num, .slice a y.kids.length c, .int .i64 y.at'] ∧ y.kids.length ≤ c ∧ c ≤ maxLen ∧ y.kids.length ≤ 17592186044416 ∧ y.text.size ≤ 140737488351232 ∧ KidsAt W W.heap.size a y.kids := by
  obtain ⟨xs, n, _, hx, hl, hlen, hfs⟩ := DataW.trod_struct Tryz.underlying41 hf
  have c29 : Tryz.prog.cellsOf 41 = 5 := by kernel_rfl
  have c3 : Tryz.prog.cellsOf 3 = 1 := by kernel_rfl
  have c9 : Tryz.prog.cellsOf 9 = 1 := by kernel_rfl
  have c27 : Tryz.prog.cellsOf 39 = 1 := by kernel_rfl
  rw [c29] at hl
  match cs, hl with
  | [v0, v1, v2, v3, v4], _ =>
    have f0 := hfs 0 _ rfl
    have f1 := hfs 1 _ rfl
    have f2 := hfs 2 _ rfl
    have f3 := hfs 3 _ rfl
    have f4 := hfs 4 _ rfl
    match xs, hlen with
    | [y0, y1, y2, y3, y4], _ =>
      simp at f0 f1 f2 f3 f4
      rw [c3] at f0 f2 f4
      rw [c9] at f1
      rw [c27] at f3
      obtain ⟨k, e0, g0, _⟩ := DataW.trod_int Tryz.underlying3 f0
      obtain ⟨s, e1, g1, _⟩ := DataW.trod_string Tryz.underlying9 f1
      obtain ⟨nm, e2, g2, _⟩ := DataW.trod_int Tryz.underlying3 f2
      obtain ⟨at', e4, g4, _⟩ := DataW.trod_int Tryz.underlying3 f4
      have hL3 : Light 39 y3.1 := fun m hm => hL m (by rw [hx]; simp [DataW.weights, Tryz.underlying41, DataW.weightsEach]; exact .inr (.inr (.inr (.inl hm))))
      have hL1 : Light 9 y1.1 := fun m hm => hL m (by rw [hx]; simp [DataW.weights, Tryz.underlying41, DataW.weightsEach]; exact .inr (.inl hm))
      simp at f3
      obtain ⟨ks, a, c, e3, k1, k2, k3, k4⟩ := kids_of_trod f3 hL3
      simp at e0 e1 e2 e4
      subst e0 e1 e2 e3 e4
      refine ⟨⟨k, s, nm, ks, at'⟩, a, c, rfl, k1, k2, k3, ?_, k4⟩
      have := hL1 s.data.toList.length (by rw [g1]; simp [DataW.weights])
      rw [Lib.size_eq]
      exact this
end Go.Proofs.YtnnpkomedpjlcaaGreatDoor

/- A tree that came in is a row of nodes. -/
namespace Go.Proofs.YtnnpkomedpjlcaaGreatDoor
set_option linter.unusedSimpArgs false
set_option linter.unusedVariables false
open Go.ChangeShapes Go.WideShapes Go.ChangeAt Go.RowKit

theorem light_all {H : Type} {e : TypeId} {l : List (DataW H)} {j : Nat} {d : DataW H} (h : ∀ n ∈ DataW.weightsAll Tryz.prog e l, n ≤ 140737488351232) (hj : l[j]? = some d) : Light e d := by
  induction l generalizing j with
  | nil => cases hj
  | cons x l ih =>
    cases j with
    | zero =>
      simp only [List.getElem?_cons_zero, Option.some.injEq] at hj
      subst hj
      exact fun n hn => h n (by simp only [DataW.weightsAll, List.mem_append]; exact .inl hn)
    | succ j => exact ih (fun n hn => h n (by simp only [DataW.weightsAll, List.mem_append]; exact .inr hn)) (by simpa using hj)

set_option maxRecDepth 100000 in
theorem nodes_of_trod {H : Type} {enc : TypeId × Value → H} {W : World} {base : Nat} {sp : Nat → Bool} {held : Bool} {fuel : Nat} {v : Value} {x : DataW H × List MemPlace} (hf : DataW.trod enc Tryz.prog W base sp held fuel 22 [v] = some x) (hL : Light 22 x.1) :
    ∃ l : List Nd, NodesR W W.heap.size v l := by
  have c29 : Tryz.prog.cellsOf 41 = 5 := by kernel_rfl
  have b29 : Tryz.prog.bytesOf 41 = 64 := by kernel_rfl
  rcases DataW.trod_slice Tryz.underlying22 hf with ⟨h0, _⟩ | ⟨a, len, cap, elems, rest, n, _, hcs, hx, _, hl, hm, hlen, hel, _, _⟩
  · simp at h0
    exact ⟨[], Nat.zero_le _, fun j h => by simp at h, none, 0, h0, Nat.le_refl _, Nat.zero_le _, .inl rfl⟩
  · simp at hcs
    subst hcs
    have hw : (elems.length + rest.length) * 64 ≤ 140737488351232 := by
      refine hL _ ?_
      rw [hx]
      simp [DataW.weights, Tryz.underlying22, b29]
    have hall : ∀ m ∈ DataW.weightsAll Tryz.prog 41 (elems.map (·.1)), m ≤ 140737488351232 := fun m hm => hL m (by rw [hx]; simp [DataW.weights, Tryz.underlying22]; exact .inr (.inl hm))
    rw [c29] at hel
    have raw : ∀ j, j < len → ∃ y : Nd, ∃ (ka : Option Addr) (kc : Nat), W.cells? base (a.add (j * 5)) 5 = some [.int .i64 y.kind, .string y.text, .int .i64 y.num, .slice ka y.kids.length kc, .int .i64 y.at'] ∧ y.kids.length ≤ kc ∧ kc ≤ maxLen ∧ y.kids.length ≤ 17592186044416 ∧ y.text.size ≤ 140737488351232 ∧ KidsAt W W.heap.size ka y.kids := by
      intro j hj
      have h1 := hel j hj
      obtain ⟨z, hz⟩ : ∃ z, elems[j]? = some z := ⟨_, List.getElem?_eq_getElem (by omega)⟩
      rw [hz, Option.bind_eq_some_iff] at h1
      obtain ⟨cs, h2, h3⟩ := h1
      obtain ⟨y, ka, kc, rfl, r⟩ := node_of_trod h3 (light_all (j := j) hall (by rw [List.getElem?_map, hz]; rfl))
      exact ⟨y, ka, kc, h2, r⟩
    obtain ⟨l, hll, hk⟩ := ex_list nd0 len raw
    subst hll
    refine ⟨l, by omega, fun j hj => ?_, some a, cap, rfl, hl, hm, ?_⟩
    · obtain ⟨_, _, _, _, _, h3, h4, _⟩ := hk j hj
      exact ⟨h4, h3⟩
    by_cases h0 : l = []
    · exact .inl h0
    have hpos : 0 < l.length := List.length_pos_iff.2 h0
    obtain ⟨b, off, spot⟩ := a
    obtain ⟨_, _, hc0, _⟩ := hk 0 hpos
    have hspot : spot = none := by
      simpa [Addr.add] using World.cell?_spot ((World.cells?_some hc0).2.2 0 (by simp))
    subst hspot
    have hb : b < W.heap.size := by simpa [Addr.add] using World.cells?_block hc0 (by omega)
    refine .inr ⟨b, off, rfl, hb, fun j hj => ?_⟩
    obtain ⟨ka, kc, hc, r1, r2, _, _, r3⟩ := hk j hj
    rw [Addr.add_lit] at hc
    have h4 := (World.cells?_some hc).2.2
    have q0 := h4 0 (by simp)
    have q1 := h4 1 (by simp)
    have q2 := h4 2 (by simp)
    have q3 := h4 3 (by simp)
    have q4 := h4 4 (by simp)
    rw [Addr.add_lit] at q0 q1 q2 q3 q4
    exact ⟨q0, q1, q2, ⟨ka, kc, q3, r1, r2, r3⟩, q4⟩

set_option maxRecDepth 100000 in
theorem open_tree {H : Type} {enc : TypeId × Value → H} {W : World} {r : Reach} {b0 base : Nat} {sp : Nat → Bool} {held : Bool} {v : Value} {d : DataW H} {p : List MemPlace} (hval : Value.okWide Tryz.prog W r b0 24 v) (h : DataW.Trod enc Tryz.prog W base sp held 24 v d p) (hL : Light 24 d) :
    ∃ (v1 : Value) (l : List Nd), v = .agg #[v1] ∧ NodesR W W.heap.size v1 l := by
  obtain ⟨cs, rfl, hsz⟩ := okWide_struct Tryz.underlying24 hval
  obtain ⟨fuel, hf⟩ := h
  obtain ⟨xs, n, _, hx, hl, hlen, hfs⟩ := DataW.trod_struct Tryz.underlying24 hf
  have c24 : Tryz.prog.cellsOf 24 = 1 := by kernel_rfl
  have c22 : Tryz.prog.cellsOf 22 = 1 := by kernel_rfl
  rw [c24] at hsz
  obtain ⟨l0⟩ := cs
  match l0, hsz with
  | [v0], _ =>
    have f0 := hfs 0 _ rfl
    match xs, hlen with
    | [y0], _ =>
      simp [Value.cells] at f0
      rw [c22] at f0
      simp at f0 hx
      have hL0 : Light 22 y0.1 := fun m hm => hL m (by rw [hx.1]; simp [DataW.weights, Tryz.underlying24, DataW.weightsEach]; exact hm)
      obtain ⟨l, hN⟩ := nodes_of_trod f0 hL0
      exact ⟨v0, l, rfl, hN⟩
end Go.Proofs.YtnnpkomedpjlcaaGreatDoor

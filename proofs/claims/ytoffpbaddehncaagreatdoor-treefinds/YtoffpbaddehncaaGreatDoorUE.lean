/- A tree that came in is a row of nodes. -/
import Derived.Test.YtoffpbaddehncaaGreatDoorUD
namespace Go.Proofs.YtoffpbaddehncaaGreatDoor
set_option linter.unusedSimpArgs false
set_option linter.unusedVariables false
open Go.ChangeShapes Go.WideShapes Go.ChangeAt Go.RowKit

theorem light_all {H : Type} {e : TypeId} {l : List (DataW H)} {j : Nat} {d : DataW H} (h : ∀ n ∈ DataW.weightsAll Tryz.prog e l, n ≤ 140737488351232) (hj : l[j]? = some d) : Light e d := by
  induction l generalizing j with
  | nil => cases hj
  | cons x l ih =>
    cases j with
    | zero =>
      simp only [List.getElem?_cons_zero, Option.some.injEq] at hj
      subst hj
      exact fun n hn => h n (by simp only [DataW.weightsAll, List.mem_append]; exact .inl hn)
    | succ j => exact ih (fun n hn => h n (by simp only [DataW.weightsAll, List.mem_append]; exact .inr hn)) (by simpa using hj)

set_option maxRecDepth 100000 in
theorem nodes_of_trod {H : Type} {enc : TypeId × Value → H} {W : World} {base : Nat} {sp : Nat → Bool} {held : Bool} {fuel : Nat} {v : Value} {x : DataW H × List MemPlace} (hf : DataW.trod enc Tryz.prog W base sp held fuel 22 [v] = some x) (hL : Light 22 x.1) :
    ∃ l : List Nd, NodesR W W.heap.size v l := by
  have c29 : Tryz.prog.cellsOf 29 = 5 := by kernel_rfl
  have b29 : Tryz.prog.bytesOf 29 = 64 := by kernel_rfl
  rcases DataW.trod_slice Tryz.underlying22 hf with ⟨h0, _⟩ | ⟨a, len, cap, elems, rest, n, _, hcs, hx, _, hl, hm, hlen, hel, _, _⟩
  · simp at h0
    exact ⟨[], Nat.zero_le _, fun j h => by simp at h, none, 0, h0, Nat.le_refl _, Nat.zero_le _, .inl rfl⟩
  · simp at hcs
    subst hcs
    have hw : (elems.length + rest.length) * 64 ≤ 140737488351232 := by
      refine hL _ ?_
      rw [hx]
      simp [DataW.weights, Tryz.underlying22, b29]
    have hall : ∀ m ∈ DataW.weightsAll Tryz.prog 29 (elems.map (·.1)), m ≤ 140737488351232 := fun m hm => hL m (by rw [hx]; simp [DataW.weights, Tryz.underlying22]; exact .inr (.inl hm))
    rw [c29] at hel
    have raw : ∀ j, j < len → ∃ y : Nd, ∃ (ka : Option Addr) (kc : Nat), W.cells? base (a.add (j * 5)) 5 = some [.int .i64 y.kind, .string y.text, .int .i64 y.num, .slice ka y.kids.length kc, .int .i64 y.at'] ∧ y.kids.length ≤ kc ∧ kc ≤ maxLen ∧ y.kids.length ≤ 17592186044416 ∧ y.text.size ≤ 140737488351232 ∧ KidsAt W W.heap.size ka y.kids := by
      intro j hj
      have h1 := hel j hj
      obtain ⟨z, hz⟩ : ∃ z, elems[j]? = some z := ⟨_, List.getElem?_eq_getElem (by omega)⟩
      rw [hz, Option.bind_eq_some_iff] at h1
      obtain ⟨cs, h2, h3⟩ := h1
      obtain ⟨y, ka, kc, rfl, r⟩ := node_of_trod h3 (light_all (j := j) hall (by rw [List.getElem?_map, hz]; rfl))
      exact ⟨y, ka, kc, h2, r⟩
    obtain ⟨l, hll, hk⟩ := ex_list nd0 len raw
    subst hll
    refine ⟨l, by omega, fun j hj => ?_, some a, cap, rfl, hl, hm, ?_⟩
    · obtain ⟨_, _, _, _, _, h3, h4, _⟩ := hk j hj
      exact ⟨h4, h3⟩
    by_cases h0 : l = []
    · exact .inl h0
    have hpos : 0 < l.length := List.length_pos_iff.2 h0
    obtain ⟨b, off, spot⟩ := a
    obtain ⟨_, _, hc0, _⟩ := hk 0 hpos
    have hspot : spot = none := by
      simpa [Addr.add] using World.cell?_spot ((World.cells?_some hc0).2.2 0 (by simp))
    subst hspot
    have hb : b < W.heap.size := by simpa [Addr.add] using World.cells?_block hc0 (by omega)
    refine .inr ⟨b, off, rfl, hb, fun j hj => ?_⟩
    obtain ⟨ka, kc, hc, r1, r2, _, _, r3⟩ := hk j hj
    rw [Addr.add_lit] at hc
    have h4 := (World.cells?_some hc).2.2
    have q0 := h4 0 (by simp)
    have q1 := h4 1 (by simp)
    have q2 := h4 2 (by simp)
    have q3 := h4 3 (by simp)
    have q4 := h4 4 (by simp)
    rw [Addr.add_lit] at q0 q1 q2 q3 q4
    exact ⟨q0, q1, q2, ⟨ka, kc, q3, r1, r2, r3⟩, q4⟩

set_option maxRecDepth 100000 in
theorem open_tree {H : Type} {enc : TypeId × Value → H} {W : World} {r : Reach} {b0 base : Nat} {sp : Nat → Bool} {held : Bool} {v : Value} {d : DataW H} {p : List MemPlace} (hval : Value.okWide Tryz.prog W r b0 24 v) (h : DataW.Trod enc Tryz.prog W base sp held 24 v d p) (hL : Light 24 d) :
    ∃ (v1 : Value) (l : List Nd), v = .agg #[v1] ∧ NodesR W W.heap.size v1 l := by
  obtain ⟨cs, rfl, hsz⟩ := okWide_struct Tryz.underlying24 hval
  obtain ⟨fuel, hf⟩ := h
  obtain ⟨xs, n, _, hx, hl, hlen, hfs⟩ := DataW.trod_struct Tryz.underlying24 hf
  have c24 : Tryz.prog.cellsOf 24 = 1 := by kernel_rfl
  have c22 : Tryz.prog.cellsOf 22 = 1 := by kernel_rfl
  rw [c24] at hsz
  obtain ⟨l0⟩ := cs
  match l0, hsz with
  | [v0], _ =>
    have f0 := hfs 0 _ rfl
    match xs, hlen with
    | [y0], _ =>
      simp [Value.cells] at f0
      rw [c22] at f0
      simp at f0 hx
      have hL0 : Light 22 y0.1 := fun m hm => hL m (by rw [hx.1]; simp [DataW.weights, Tryz.underlying24, DataW.weightsEach]; exact hm)
      obtain ⟨l, hN⟩ := nodes_of_trod f0 hL0
      exact ⟨v0, l, rfl, hN⟩
end Go.Proofs.YtoffpbaddehncaaGreatDoor

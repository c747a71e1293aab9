/- What the law is told of a row of trees that came in, small in bulk. -/
import Derived.ProofKit
import Derived.LaidMore
import Derived.OpenShut
import Derived.ShutString
import Derived.ChangeOld
import Derived.Stop.Joined
import Derived.SizedLaws
import Derived.Lib.Slices
import Derived.Test.YtoffpbaddehncaaGreatDoorTie
import Derived.Test.YtoffpbaddehncaaGreatDoorT1
namespace Go.Proofs.YtoffpbaddehncaaGreatDoor
set_option linter.unusedSimpArgs false
set_option linter.unusedVariables false
open Go.ChangeShapes Go.WideShapes Go.ChangeAt Go.RowKit

theorem bulk_one {H : Type} (d : DataW H) : 1 ≤ Rows.uptoBulk d := by
  cases d with
  | lit l => cases l <;> simp [Rows.uptoBulk]
  | _ => simp [Rows.uptoBulk]
theorem bulk_part {H : Type} {d : DataW H} : ∀ {l : List (DataW H)}, d ∈ l → Rows.uptoBulk d ≤ Rows.uptoBulkAll l
  | x :: l, h => by
    simp only [Rows.uptoBulkAll]
    rcases List.mem_cons.1 h with rfl | h
    · omega
    · have := bulk_part h; omega
theorem bulk_len {H : Type} : ∀ l : List (DataW H), l.length ≤ Rows.uptoBulkAll l
  | [] => Nat.zero_le _
  | x :: l => by
    have := bulk_len l
    have := bulk_one x
    simp only [Rows.uptoBulkAll, List.length_cons]
    omega
/-- Small in bulk. -/
def Sm {H : Type} (d : DataW H) : Prop := Rows.uptoBulk d ≤ 1048576
theorem sm_slice {H : Type} {xs ys : List (DataW H)} (h : Sm (.slice xs ys)) : xs.length ≤ 1048576 ∧ ∀ d ∈ xs, Sm d := by
  simp only [Sm, Rows.uptoBulk] at h
  have := bulk_len xs
  refine ⟨by omega, fun d hd => ?_⟩
  have := bulk_part hd
  simp only [Sm]
  omega
theorem sm_agg {H : Type} {xs : List (DataW H)} (h : Sm (.agg xs)) : ∀ d ∈ xs, Sm d := by
  simp only [Sm, Rows.uptoBulk] at h
  intro d hd
  have := bulk_part hd
  simp only [Sm]
  omega
theorem ex_list {α : Type} (d : α) {P : Nat → α → Prop} : ∀ n, (∀ j, j < n → ∃ k, P j k) → ∃ ks : List α, ks.length = n ∧ ∀ j, j < n → P j (ks.getD j d)
  | 0, _ => ⟨[], rfl, fun j h => by omega⟩
  | n + 1, h => by
    obtain ⟨ks, hl, hk⟩ := ex_list d n fun j hj => h j (by omega)
    obtain ⟨k, hkn⟩ := h n (by omega)
    refine ⟨ks ++ [k], by simp [hl], fun j hj => ?_⟩
    by_cases e : j = n
    · subst e
      rw [List.getD_eq_getElem?_getD, List.getElem?_append_right (by omega), hl]
      simpa using hkn
    · have := hk j (by omega)
      rw [List.getD_eq_getElem?_getD, List.getElem?_append_left (by omega), ← List.getD_eq_getElem?_getD]
      exact this

set_option maxRecDepth 100000 in
theorem kids_of_trod {H : Type} {enc : TypeId × Value → H} {W : World} {base : Nat} {sp : Nat → Bool} {held : Bool} {fuel : Nat} {v : Value} {x : DataW H × List MemPlace} (hf : DataW.trod enc Tryz.prog W base sp held fuel 27 [v] = some x) (hL : Sm x.1) :
    ∃ (ks : List Int) (a : Option Addr) (c : Nat), v = .slice a ks.length c ∧ ks.length ≤ c ∧ c ≤ maxLen ∧ ks.length ≤ 1048576 ∧ KidsAt W W.heap.size a ks := by
  have c3 : Tryz.prog.cellsOf 3 = 1 := by kernel_rfl
  rcases DataW.trod_slice Tryz.underlying27 hf with ⟨h0, _⟩ | ⟨a, len, cap, elems, rest, n, _, hcs, hx, _, hl, hm, hlen, hel, _, _⟩
  · simp at h0
    exact ⟨[], none, 0, h0, Nat.le_refl _, Nat.zero_le _, Nat.zero_le _, .inl rfl⟩
  · simp at hcs
    subst hcs
    rw [hx] at hL
    have hw := (sm_slice hL).1
    rw [List.length_map] at hw
    rw [c3] at hel
    have raw : ∀ j, j < len → ∃ k : Int, W.cells? base (a.add (j * 1)) 1 = some [.int .i64 k] := by
      intro j hj
      have h1 := hel j hj
      rw [List.getElem?_eq_getElem (by omega), Option.bind_eq_some_iff] at h1
      obtain ⟨cs, h2, h3⟩ := h1
      obtain ⟨k, rfl, _⟩ := DataW.trod_int Tryz.underlying3 h3
      exact ⟨k, h2⟩
    obtain ⟨ks, hkl, hk⟩ := ex_list (0 : Int) len raw
    subst hkl
    refine ⟨ks, some a, cap, rfl, hl, hm, by omega, ?_⟩
    by_cases h0 : ks = []
    · exact .inl h0
    have hpos : 0 < ks.length := List.length_pos_iff.2 h0
    obtain ⟨b, off, spot⟩ := a
    have hspot : spot = none := by
      simpa [Addr.add] using World.cell?_spot ((World.cells?_some (hk 0 hpos)).2.2 0 (by simp))
    subst hspot
    have hb : b < W.heap.size := by simpa [Addr.add] using World.cells?_block (hk 0 hpos) (by omega)
    refine .inr ⟨b, off, rfl, hb, fun j hj => ?_⟩
    have q := (World.cells?_some (hk j hj)).2.2 0 (by simp)
    rw [Addr.add_lit, Addr.add_lit] at q
    simpa using q

set_option maxRecDepth 100000 in
theorem node_of_trod {H : Type} {enc : TypeId × Value → H} {W : World} {base : Nat} {sp : Nat → Bool} {held : Bool} {fuel : Nat} {cs : List Value} {x : DataW H × List MemPlace} (hf : DataW.trod enc Tryz.prog W base sp held fuel 29 cs = some x) (hL : Sm x.1) :
    ∃ (y : Nd) (a : Option Addr) (c : Nat), cs = [.int .i64 y.kind, .string y.text, .int .i64 y.num, .slice a y.kids.length c, .int .i64 y.at'] ∧ y.kids.length ≤ c ∧ c ≤ maxLen ∧ y.kids.length ≤ 1048576 ∧ y.text.size ≤ 1048576 ∧ KidsAt W W.heap.size a y.kids := by
  obtain ⟨xs, n, _, hx, hl, hlen, hfs⟩ := DataW.trod_struct Tryz.underlying29 hf
  have c29 : Tryz.prog.cellsOf 29 = 5 := by kernel_rfl
  have c3 : Tryz.prog.cellsOf 3 = 1 := by kernel_rfl
  have c9 : Tryz.prog.cellsOf 9 = 1 := by kernel_rfl
  have c27 : Tryz.prog.cellsOf 27 = 1 := by kernel_rfl
  rw [c29] at hl
  match cs, hl with
  | [v0, v1, v2, v3, v4], _ =>
    have f0 := hfs 0 _ rfl
    have f1 := hfs 1 _ rfl
    have f2 := hfs 2 _ rfl
    have f3 := hfs 3 _ rfl
    have f4 := hfs 4 _ rfl
    match xs, hlen with
    | [y0, y1, y2, y3, y4], _ =>
      simp at f0 f1 f2 f3 f4
      rw [c3] at f0 f2 f4
      rw [c9] at f1
      rw [c27] at f3
      obtain ⟨k, e0, g0, _⟩ := DataW.trod_int Tryz.underlying3 f0
      obtain ⟨s, e1, g1, _⟩ := DataW.trod_string Tryz.underlying9 f1
      obtain ⟨nm, e2, g2, _⟩ := DataW.trod_int Tryz.underlying3 f2
      obtain ⟨at', e4, g4, _⟩ := DataW.trod_int Tryz.underlying3 f4
      rw [hx] at hL
      have hA := sm_agg hL
      have hL3 : Sm y3.1 := hA _ (by simp)
      have hL1 : Sm y1.1 := hA _ (by simp)
      simp at f3
      obtain ⟨ks, a, c, e3, k1, k2, k3, k4⟩ := kids_of_trod f3 hL3
      simp at e0 e1 e2 e4
      subst e0 e1 e2 e3 e4
      refine ⟨⟨k, s, nm, ks, at'⟩, a, c, rfl, k1, k2, k3, ?_, k4⟩
      rw [g1] at hL1
      simp only [Sm, Rows.uptoBulk] at hL1
      have e : s.data.toList.length = s.size := by rw [Array.length_toList]; rfl
      show s.size ≤ 1048576
      omega

set_option maxRecDepth 100000 in
theorem nodes_of_trod {H : Type} {enc : TypeId × Value → H} {W : World} {base : Nat} {sp : Nat → Bool} {held : Bool} {fuel : Nat} {v : Value} {x : DataW H × List MemPlace} (hf : DataW.trod enc Tryz.prog W base sp held fuel 22 [v] = some x) (hL : Sm x.1) :
    ∃ l : List Nd, Nodes W W.heap.size v l := by
  have c29 : Tryz.prog.cellsOf 29 = 5 := by kernel_rfl
  rcases DataW.trod_slice Tryz.underlying22 hf with ⟨h0, _⟩ | ⟨a, len, cap, elems, rest, n, _, hcs, hx, _, hl, hm, hlen, hel, _, _⟩
  · simp at h0
    exact ⟨[], Nat.zero_le _, fun j h => by simp at h, none, 0, h0, Nat.le_refl _, Nat.zero_le _, .inl rfl⟩
  · simp at hcs
    subst hcs
    rw [hx] at hL
    obtain ⟨hw, hall⟩ := sm_slice hL
    rw [List.length_map] at hw
    rw [c29] at hel
    have raw : ∀ j, j < len → ∃ y : Nd, ∃ (ka : Option Addr) (kc : Nat), W.cells? base (a.add (j * 5)) 5 = some [.int .i64 y.kind, .string y.text, .int .i64 y.num, .slice ka y.kids.length kc, .int .i64 y.at'] ∧ y.kids.length ≤ kc ∧ kc ≤ maxLen ∧ y.kids.length ≤ 1048576 ∧ y.text.size ≤ 1048576 ∧ KidsAt W W.heap.size ka y.kids := by
      intro j hj
      have h1 := hel j hj
      obtain ⟨z, hz⟩ : ∃ z, elems[j]? = some z := ⟨_, List.getElem?_eq_getElem (by omega)⟩
      rw [hz, Option.bind_eq_some_iff] at h1
      obtain ⟨cs, h2, h3⟩ := h1
      obtain ⟨y, ka, kc, rfl, r⟩ := node_of_trod h3 (hall _ (List.mem_map_of_mem (List.mem_of_getElem? hz)))
      exact ⟨y, ka, kc, h2, r⟩
    obtain ⟨l, hll, hk⟩ := ex_list nd0 len raw
    subst hll
    refine ⟨l, by omega, fun j hj => ?_, some a, cap, rfl, hl, hm, ?_⟩
    · obtain ⟨_, _, _, _, _, h3, h4, _⟩ := hk j hj
      exact ⟨Nat.le_trans h4 (by omega), Nat.le_trans h3 (by omega)⟩
    by_cases h0 : l = []
    · exact .inl h0
    have hpos : 0 < l.length := List.length_pos_iff.2 h0
    obtain ⟨b, off, spot⟩ := a
    obtain ⟨_, _, hc0, _⟩ := hk 0 hpos
    have hspot : spot = none := by
      simpa [Addr.add] using World.cell?_spot ((World.cells?_some hc0).2.2 0 (by simp))
    subst hspot
    have hb : b < W.heap.size := by simpa [Addr.add] using World.cells?_block hc0 (by omega)
    refine .inr ⟨b, off, rfl, hb, fun j hj => ?_⟩
    obtain ⟨ka, kc, hc, r1, r2, _, _, r3⟩ := hk j hj
    rw [Addr.add_lit] at hc
    have h4 := (World.cells?_some hc).2.2
    have q0 := h4 0 (by simp)
    have q1 := h4 1 (by simp)
    have q2 := h4 2 (by simp)
    have q3 := h4 3 (by simp)
    have q4 := h4 4 (by simp)
    rw [Addr.add_lit] at q0 q1 q2 q3 q4
    exact ⟨q0, q1, q2, ⟨ka, kc, q3, r1, r2, r3⟩, q4⟩

set_option maxRecDepth 100000 in
theorem tree_of_trod {H : Type} {enc : TypeId × Value → H} {W : World} {base : Nat} {sp : Nat → Bool} {held : Bool} {fuel : Nat} {cs : List Value} {x : DataW H × List MemPlace} (hf : DataW.trod enc Tryz.prog W base sp held fuel 24 cs = some x) (hL : Sm x.1) :
    ∃ (v : Value) (l : List Nd), cs = [v] ∧ Nodes W W.heap.size v l := by
  obtain ⟨xs, n, _, hx, hl, hlen, hfs⟩ := DataW.trod_struct Tryz.underlying24 hf
  have c28 : Tryz.prog.cellsOf 24 = 1 := by kernel_rfl
  have c26 : Tryz.prog.cellsOf 22 = 1 := by kernel_rfl
  rw [c28] at hl
  match cs, hl with
  | [v0], _ =>
    have f0 := hfs 0 _ rfl
    match xs, hlen with
    | [y0], _ =>
      simp at f0
      rw [c26] at f0
      simp at f0
      rw [hx] at hL
      obtain ⟨l, hN⟩ := nodes_of_trod f0 (sm_agg hL _ (by simp))
      exact ⟨v0, l, rfl, hN⟩

set_option maxRecDepth 100000 in
theorem open_trees {H : Type} {enc : TypeId × Value → H} {W : World} {r : Reach} {b0 base : Nat} {sp : Nat → Bool} {held : Bool} {v : Value} {d : DataW H} {p : List MemPlace} (hval : Value.okWide Tryz.prog W r b0 50 v) (h : DataW.Trod enc Tryz.prog W base sp held 50 v d p) (hL : Sm d) :
    ∃ (a : Option Addr) (ts : List (List Nd)) (cap : Nat), v = .slice a ts.length cap ∧ ts.length ≤ 1048576 ∧ (ts = [] ∨ ∃ b o, a = some ⟨b, o, none⟩ ∧ b < W.heap.size ∧ ∀ j, j < ts.length → ∃ tv, W.cell? ⟨b, o + j, none⟩ = some tv ∧ Nodes W W.heap.size tv (ts.getD j [])) := by
  obtain ⟨va, vl, vc, rfl⟩ := okWide_slice Tryz.underlying50 hval
  obtain ⟨fuel, hf⟩ := h
  have c28 : Tryz.prog.cellsOf 24 = 1 := by kernel_rfl
  rcases DataW.trod_slice Tryz.underlying50 hf with ⟨h0, _⟩ | ⟨a, len, cap, elems, rest, n, _, hcs, hx, _, hl, hm, hlen, hel, _, _⟩
  · simp [Value.cells] at h0
    obtain ⟨rfl, rfl, rfl⟩ := h0
    exact ⟨none, [], 0, rfl, Nat.zero_le _, .inl rfl⟩
  · simp [Value.cells] at hcs
    obtain ⟨rfl, rfl, rfl⟩ := hcs
    have hL' : Sm (DataW.slice (elems.map (·.1)) (rest.map (·.1))) := by
      have : d = DataW.slice (elems.map (·.1)) (rest.map (·.1)) := by simpa using congrArg Prod.fst hx
      rw [← this]; exact hL
    obtain ⟨hw, hall⟩ := sm_slice hL'
    rw [List.length_map] at hw
    rw [c28] at hel
    have raw : ∀ j, j < vl → ∃ l : List Nd, ∃ tv : Value, W.cells? base (a.add (j * 1)) 1 = some [tv] ∧ Nodes W W.heap.size tv l := by
      intro j hj
      have h1 := hel j hj
      obtain ⟨z, hz⟩ : ∃ z, elems[j]? = some z := ⟨_, List.getElem?_eq_getElem (by omega)⟩
      rw [hz, Option.bind_eq_some_iff] at h1
      obtain ⟨cs, h2, h3⟩ := h1
      obtain ⟨tv, l, rfl, r⟩ := tree_of_trod h3 (hall _ (List.mem_map_of_mem (List.mem_of_getElem? hz)))
      exact ⟨l, tv, h2, r⟩
    obtain ⟨ts, hll, hk⟩ := ex_list ([] : List Nd) vl raw
    subst hll
    refine ⟨some a, ts, vc, rfl, by omega, ?_⟩
    by_cases h0 : ts = []
    · exact .inl h0
    have hpos : 0 < ts.length := List.length_pos_iff.2 h0
    obtain ⟨b, off, spot⟩ := a
    obtain ⟨tv0, hc0, _⟩ := hk 0 hpos
    have hspot : spot = none := by
      simpa [Addr.add] using World.cell?_spot ((World.cells?_some hc0).2.2 0 (by simp))
    subst hspot
    have hb : b < W.heap.size := by simpa [Addr.add] using World.cells?_block hc0 (by omega)
    refine .inr ⟨b, off, rfl, hb, fun j hj => ?_⟩
    obtain ⟨tv, hc, r⟩ := hk j hj
    rw [Addr.add_lit] at hc
    have q0 := (World.cells?_some hc).2.2 0 (by simp)
    rw [Addr.add_lit] at q0
    exact ⟨tv, by simpa using q0, r⟩
end Go.Proofs.YtoffpbaddehncaaGreatDoor

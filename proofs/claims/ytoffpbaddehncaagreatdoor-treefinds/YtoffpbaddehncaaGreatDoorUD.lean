/- What a law is told of a tree that came in. -/
import Derived.ProofKit
import Derived.LaidMore
import Derived.OpenShut
import Derived.ShutString
import Derived.ChangeOld
import Derived.Stop.Joined
import Derived.SizedLaws
import Derived.Test.YtoffpbaddehncaaGreatDoorTie
import Derived.Test.YtoffpbaddehncaaGreatDoorUG
namespace Go.Proofs.YtoffpbaddehncaaGreatDoor
set_option linter.unusedSimpArgs false
set_option linter.unusedVariables false
open Go.ChangeShapes Go.WideShapes Go.ChangeAt Go.RowKit

theorem ex_list {α : Type} (d : α) {P : Nat → α → Prop} : ∀ n, (∀ j, j < n → ∃ k, P j k) → ∃ ks : List α, ks.length = n ∧ ∀ j, j < n → P j (ks.getD j d)
  | 0, _ => ⟨[], rfl, fun j h => by omega⟩
  | n + 1, h => by
    obtain ⟨ks, hl, hk⟩ := ex_list d n fun j hj => h j (by omega)
    obtain ⟨k, hkn⟩ := h n (by omega)
    refine ⟨ks ++ [k], by simp [hl], fun j hj => ?_⟩
    by_cases e : j = n
    · subst e
      rw [List.getD_eq_getElem?_getD, List.getElem?_append_right (by omega), hl]
      simpa using hkn
    · have := hk j (by omega)
      rw [List.getD_eq_getElem?_getD, List.getElem?_append_left (by omega), ← List.getD_eq_getElem?_getD]
      exact this

/-- What a call can reach. -/
def Light {H : Type} (t : TypeId) (d : DataW H) : Prop := ∀ n ∈ d.weights Tryz.prog t, n ≤ 140737488351232

set_option maxRecDepth 100000 in
theorem kids_of_trod {H : Type} {enc : TypeId × Value → H} {W : World} {base : Nat} {sp : Nat → Bool} {held : Bool} {fuel : Nat} {v : Value} {x : DataW H × List MemPlace} (hf : DataW.trod enc Tryz.prog W base sp held fuel 27 [v] = some x) (hL : Light 27 x.1) :
    ∃ (ks : List Int) (a : Option Addr) (c : Nat), v = .slice a ks.length c ∧ ks.length ≤ c ∧ c ≤ maxLen ∧ ks.length ≤ 17592186044416 ∧ KidsAt W W.heap.size a ks := by
  have c3 : Tryz.prog.cellsOf 3 = 1 := by kernel_rfl
  have b3 : Tryz.prog.bytesOf 3 = 8 := by kernel_rfl
  rcases DataW.trod_slice Tryz.underlying27 hf with ⟨h0, _⟩ | ⟨a, len, cap, elems, rest, n, _, hcs, hx, _, hl, hm, hlen, hel, _, _⟩
  · simp at h0
    exact ⟨[], none, 0, h0, Nat.le_refl _, Nat.zero_le _, Nat.zero_le _, .inl rfl⟩
  · simp at hcs
    subst hcs
    have hw : (elems.length + rest.length) * 8 ≤ 140737488351232 := by
      refine hL _ ?_
      rw [hx]
      simp [DataW.weights, Tryz.underlying27, b3]
    rw [c3] at hel
    have raw : ∀ j, j < len → ∃ k : Int, W.cells? base (a.add (j * 1)) 1 = some [.int .i64 k] := by
      intro j hj
      have h1 := hel j hj
      rw [List.getElem?_eq_getElem (by omega), Option.bind_eq_some_iff] at h1
      obtain ⟨cs, h2, h3⟩ := h1
      obtain ⟨k, rfl, _⟩ := DataW.trod_int Tryz.underlying3 h3
      exact ⟨k, h2⟩
    obtain ⟨ks, hkl, hk⟩ := ex_list (0 : Int) len raw
    subst hkl
    refine ⟨ks, some a, cap, rfl, hl, hm, by omega, ?_⟩
    by_cases h0 : ks = []
    · exact .inl h0
    have hpos : 0 < ks.length := List.length_pos_iff.2 h0
    obtain ⟨b, off, spot⟩ := a
    have hspot : spot = none := by
      simpa [Addr.add] using World.cell?_spot ((World.cells?_some (hk 0 hpos)).2.2 0 (by simp))
    subst hspot
    have hb : b < W.heap.size := by simpa [Addr.add] using World.cells?_block (hk 0 hpos) (by omega)
    refine .inr ⟨b, off, rfl, hb, fun j hj => ?_⟩
    have q := (World.cells?_some (hk j hj)).2.2 0 (by simp)
    rw [Addr.add_lit, Addr.add_lit] at q
    simpa using q

set_option maxRecDepth 100000 in
theorem node_of_trod {H : Type} {enc : TypeId × Value → H} {W : World} {base : Nat} {sp : Nat → Bool} {held : Bool} {fuel : Nat} {cs : List Value} {x : DataW H × List MemPlace} (hf : DataW.trod enc Tryz.prog W base sp held fuel 29 cs = some x) (hL : Light 29 x.1) :
    ∃ (y : Nd) (a : Option Addr) (c : Nat), cs = [.int .i64 y.kind, .string y.text, .int .i64 y.num, .slice a y.kids.length c, .int .i64 y.at'] ∧ y.kids.length ≤ c ∧ c ≤ maxLen ∧ y.kids.length ≤ 17592186044416 ∧ y.text.size ≤ 140737488351232 ∧ KidsAt W W.heap.size a y.kids := by
  obtain ⟨xs, n, _, hx, hl, hlen, hfs⟩ := DataW.trod_struct Tryz.underlying29 hf
  have c29 : Tryz.prog.cellsOf 29 = 5 := by kernel_rfl
  have c3 : Tryz.prog.cellsOf 3 = 1 := by kernel_rfl
  have c9 : Tryz.prog.cellsOf 9 = 1 := by kernel_rfl
  have c27 : Tryz.prog.cellsOf 27 = 1 := by kernel_rfl
  rw [c29] at hl
  match cs, hl with
  | [v0, v1, v2, v3, v4], _ =>
    have f0 := hfs 0 _ rfl
    have f1 := hfs 1 _ rfl
    have f2 := hfs 2 _ rfl
    have f3 := hfs 3 _ rfl
    have f4 := hfs 4 _ rfl
    match xs, hlen with
    | [y0, y1, y2, y3, y4], _ =>
      simp at f0 f1 f2 f3 f4
      rw [c3] at f0 f2 f4
      rw [c9] at f1
      rw [c27] at f3
      obtain ⟨k, e0, g0, _⟩ := DataW.trod_int Tryz.underlying3 f0
      obtain ⟨s, e1, g1, _⟩ := DataW.trod_string Tryz.underlying9 f1
      obtain ⟨nm, e2, g2, _⟩ := DataW.trod_int Tryz.underlying3 f2
      obtain ⟨at', e4, g4, _⟩ := DataW.trod_int Tryz.underlying3 f4
      have hL3 : Light 27 y3.1 := fun m hm => hL m (by rw [hx]; simp [DataW.weights, Tryz.underlying29, DataW.weightsEach]; exact .inr (.inr (.inr (.inl hm))))
      have hL1 : Light 9 y1.1 := fun m hm => hL m (by rw [hx]; simp [DataW.weights, Tryz.underlying29, DataW.weightsEach]; exact .inr (.inl hm))
      simp at f3
      obtain ⟨ks, a, c, e3, k1, k2, k3, k4⟩ := kids_of_trod f3 hL3
      simp at e0 e1 e2 e4
      subst e0 e1 e2 e3 e4
      refine ⟨⟨k, s, nm, ks, at'⟩, a, c, rfl, k1, k2, k3, ?_, k4⟩
      have := hL1 s.data.toList.length (by rw [g1]; simp [DataW.weights])
      rw [Lib.size_eq]
      exact this
end Go.Proofs.YtoffpbaddehncaaGreatDoor

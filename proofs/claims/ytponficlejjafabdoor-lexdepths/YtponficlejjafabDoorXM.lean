/- What a law is told of a row of tokens that came in. -/
import Derived.Test.YtponficlejjafabDoorG0
import Derived.Test.YtponficlejjafabDoorXK
namespace Go.Proofs.YtponficlejjafabDoor
set_option linter.unusedSimpArgs false
set_option linter.unusedVariables false
open Go.ChangeShapes Go.WideShapes Go.ChangeAt Go.RowKit

set_option maxRecDepth 100000 in
theorem tok_of_trod {H : Type} {enc : TypeId × Value → H} {W : World} {base : Nat} {sp : Nat → Bool} {held : Bool} {fuel : Nat} {cs : List Value} {x : DataW H × List MemPlace} (hf : DataW.trod enc Tryd.prog W base sp held fuel 37 cs = some x) :
    ∃ (k a b : Int) (s : ByteArray), cs = [.int .i64 k, .string s, .int .i64 a, .int .i64 b] := by
  obtain ⟨xs, n, _, hx, hl, hlen, hfs⟩ := DataW.trod_struct Tryd.underlying37 hf
  have c37 : Tryd.prog.cellsOf 37 = 4 := by kernel_rfl
  have c3 : Tryd.prog.cellsOf 3 = 1 := by kernel_rfl
  have c9 : Tryd.prog.cellsOf 9 = 1 := by kernel_rfl
  rw [c37] at hl
  match cs, hl with
  | [v0, v1, v2, v3], _ =>
    have f0 := hfs 0 _ rfl
    have f1 := hfs 1 _ rfl
    have f2 := hfs 2 _ rfl
    have f3 := hfs 3 _ rfl
    match xs, hlen with
    | [y0, y1, y2, y3], _ =>
      simp at f0 f1 f2 f3
      rw [c3] at f0 f2 f3
      rw [c9] at f1
      obtain ⟨k, e0, rfl, _⟩ := DataW.trod_int Tryd.underlying3 f0
      obtain ⟨s, e1, rfl, _⟩ := DataW.trod_string Tryd.underlying9 f1
      obtain ⟨a, e2, rfl, _⟩ := DataW.trod_int Tryd.underlying3 f2
      obtain ⟨b, e3, rfl, _⟩ := DataW.trod_int Tryd.underlying3 f3
      simp at e0 e1 e2 e3
      subst e0 e1 e2 e3
      exact ⟨k, a, b, s, rfl⟩

set_option maxRecDepth 100000 in
theorem open_toks {H : Type} {enc : TypeId × Value → H} {W : World} {base : Nat} {sp : Nat → Bool} {held : Bool} {a : Option Addr} {len cap : Nat} {d : DataW H} {p : List MemPlace} (h : DataW.Trod enc Tryd.prog W base sp held 29 (.slice a len cap) d p) :
    len ≤ maxLen ∧ (len = 0 ∨ ∃ b off K A E T, a = some ⟨b, off, none⟩ ∧ b < W.heap.size ∧ Toks W b off len K A E T) := by
  obtain ⟨fuel, hf⟩ := h
  have c37 : Tryd.prog.cellsOf 37 = 4 := by kernel_rfl
  rcases DataW.trod_slice Tryd.underlying29 hf with ⟨h0, _⟩ | ⟨x, l, c, elems, rest, n, _, hcs, _, _, hl, hm, hlen, hel, _, _⟩
  · simp [Value.cells] at h0
    obtain ⟨_, rfl, _⟩ := h0
    exact ⟨Nat.zero_le _, .inl rfl⟩
  · simp [Value.cells] at hcs
    obtain ⟨rfl, rfl, rfl⟩ := hcs
    refine ⟨Nat.le_trans hl hm, ?_⟩
    by_cases h0 : len = 0
    · exact .inl h0
    right
    rw [c37] at hel
    have raw : ∀ j, j < len → ∃ (k a' b' : Int) (s : ByteArray), W.cells? base (x.add (j * 4)) 4 = some [.int .i64 k, .string s, .int .i64 a', .int .i64 b'] := by
      intro j hj
      have h1 := hel j hj
      rw [List.getElem?_eq_getElem (by omega), Option.bind_eq_some_iff] at h1
      obtain ⟨cs, h2, h3⟩ := h1
      obtain ⟨k, a', b', s, rfl⟩ := tok_of_trod h3
      exact ⟨k, a', b', s, h2⟩
    obtain ⟨b, off, spot⟩ := x
    have hspot : spot = none := by
      obtain ⟨_, _, _, _, hc⟩ := raw 0 (by omega)
      simpa [Addr.add] using World.cell?_spot ((World.cells?_some hc).2.2 0 (by omega))
    subst hspot
    have hb : b < W.heap.size := by
      obtain ⟨_, _, _, _, hc⟩ := raw 0 (by omega)
      simpa [Addr.add] using World.cells?_block hc (by omega)
    have each : ∀ j, j < len → ∃ (k a' b' : Int) (s : ByteArray), W.cell? ⟨b, off + j * 4, none⟩ = some (.int .i64 k) ∧ W.cell? ⟨b, off + j * 4 + 1, none⟩ = some (.string s) ∧ W.cell? ⟨b, off + j * 4 + 2, none⟩ = some (.int .i64 a') ∧ W.cell? ⟨b, off + j * 4 + 3, none⟩ = some (.int .i64 b') := by
      intro j hj
      obtain ⟨k, a', b', s, hc⟩ := raw j hj
      rw [Addr.add_lit] at hc
      have h4 := (World.cells?_some hc).2.2
      have q0 := h4 0 (by omega)
      have q1 := h4 1 (by omega)
      have q2 := h4 2 (by omega)
      have q3 := h4 3 (by omega)
      rw [Addr.add_lit] at q0 q1 q2 q3
      exact ⟨k, a', b', s, q0, q1, q2, q3⟩
    refine ⟨b, off, fun j => if hj : j < len then (each j hj).choose else 0, fun j => if hj : j < len then (each j hj).choose_spec.choose else 0, fun j => if hj : j < len then (each j hj).choose_spec.choose_spec.choose else 0, fun j => if hj : j < len then (each j hj).choose_spec.choose_spec.choose_spec.choose else ⟨#[]⟩, rfl, hb, fun j hj => ?_⟩
    have hs := (each j hj).choose_spec.choose_spec.choose_spec.choose_spec
    simp only [hj, dite_true]
    exact hs
end Go.Proofs.YtponficlejjafabDoor

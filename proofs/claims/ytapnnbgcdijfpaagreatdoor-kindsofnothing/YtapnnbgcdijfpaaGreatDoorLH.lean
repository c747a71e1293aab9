/- A step that came in. -/
import Derived.ProofKit
import Derived.LaidMore
import Derived.OpenShut
import Derived.ShutString
import Derived.ChangeOld
import Derived.Stop.Joined
import Derived.SizedLaws
import Derived.Test.YtapnnbgcdijfpaaGreatDoorTie
import Derived.Test.YtapnnbgcdijfpaaGreatDoorLG
namespace Go.Proofs.YtapnnbgcdijfpaaGreatDoor
set_option linter.unusedSimpArgs false
set_option linter.unusedVariables false
set_option maxRecDepth 100000
open Go.ChangeShapes Go.WideShapes Go.ChangeAt Go.RowKit

section
variable {H : Type} {enc : TypeId × Value → H} {W : World} {base : Nat} {sp : Nat → Bool} {held : Bool} {fuel : Nat}
theorem slice_of_trod {t e : TypeId} (ht : Tryz.prog.underlying t = some (.slice e)) {v : Value} {x : DataW H × List MemPlace} (hf : DataW.trod enc Tryz.prog W base sp held fuel t [v] = some x) : ∃ (a : Option Addr) (n c : Nat), v = .slice a n c := by
  rcases DataW.trod_slice ht hf with ⟨h0, _⟩ | ⟨a, len, cap, elems, rest, n, _, hcs, _⟩
  · simp at h0
    exact ⟨none, 0, 0, h0⟩
  · simp at hcs
    exact ⟨_, _, _, hcs⟩
/-- A row of texts, or of structs that begin with one. -/
theorem strRow_of_trod {t e k : TypeId} (ht : Tryz.prog.underlying t = some (.slice e)) (hk : Tryz.prog.cellsOf e = k) (hk0 : 0 < k) (hs : ∀ {fu : Nat} {cs : List Value} {y : DataW H × List MemPlace}, DataW.trod enc Tryz.prog W base sp held fu e cs = some y → ∃ (s : ByteArray), cs[0]? = some (.string s)) {v : Value} {x : DataW H × List MemPlace} (hf : DataW.trod enc Tryz.prog W base sp held fuel t [v] = some x) :
    ∃ (a : Option Addr) (n c : Nat), v = .slice a n c ∧ StrRow W a n c k := by
  rcases DataW.trod_slice ht hf with ⟨h0, _⟩ | ⟨a, len, cap, elems, rest, n, _, hcs, hx, _, hl, hm, hlen, hel, _, _⟩
  · simp at h0
    exact ⟨none, 0, 0, h0, Nat.le_refl _, Nat.zero_le _, .inl rfl⟩
  · simp at hcs
    subst hcs
    unfold maxLen at hm
    refine ⟨some a, len, cap, rfl, hl, by omega, ?_⟩
    rw [hk] at hel
    have raw : ∀ j, j < len → ∃ (s : ByteArray) (cs : List Value), W.cells? base (a.add (j * k)) k = some cs ∧ cs[0]? = some (.string s) := by
      intro j hj
      have h1 := hel j hj
      rw [List.getElem?_eq_getElem (by omega), Option.bind_eq_some_iff] at h1
      obtain ⟨cs, h2, h3⟩ := h1
      obtain ⟨s, h4⟩ := hs h3
      exact ⟨s, cs, h2, h4⟩
    by_cases h0 : len = 0
    · exact .inl h0
    obtain ⟨b, off, spot⟩ := a
    obtain ⟨s0, cs0, q1, q2⟩ := raw 0 (by omega)
    have hspot : spot = none := by
      simpa [Addr.add] using World.cell?_spot (((World.cells?_some q1).2.2 0 (by omega)).trans q2)
    subst hspot
    have hb : b < W.heap.size := by simpa [Addr.add] using World.cells?_block q1 (by omega)
    refine .inr ⟨b, off, rfl, hb, fun j hj => ?_⟩
    obtain ⟨s, cs, r1, r2⟩ := raw j hj
    refine ⟨s, ?_⟩
    have q := (World.cells?_some r1).2.2 0 (by omega)
    rw [Addr.add_lit, Addr.add_lit] at q
    rw [r2] at q
    simpa using q
theorem str_first {fu : Nat} {cs : List Value} {y : DataW H × List MemPlace} (h : DataW.trod enc Tryz.prog W base sp held fu 9 cs = some y) : ∃ (s : ByteArray), cs[0]? = some (.string s) := by
  obtain ⟨s, e, _⟩ := DataW.trod_string Tryz.underlying9 h
  exact ⟨s, by rw [e]; rfl⟩
theorem piece_first {fu : Nat} {cs : List Value} {y : DataW H × List MemPlace} (h : DataW.trod enc Tryz.prog W base sp held fu 69 cs = some y) : ∃ (s : ByteArray), cs[0]? = some (.string s) := by
  obtain ⟨xs, n, _, hx, hl, hlen, hfs⟩ := DataW.trod_struct Tryz.underlying69 h
  have c69 : Tryz.prog.cellsOf 69 = 3 := by kernel_rfl
  have c9 : Tryz.prog.cellsOf 9 = 1 := by kernel_rfl
  rw [c69] at hl
  match cs, hl with
  | [v0, v1, v2], _ =>
    have f0 := hfs 0 _ rfl
    match xs, hlen with
    | [y0, y1, y2], _ =>
      simp at f0
      rw [c9] at f0
      obtain ⟨s, e, _⟩ := DataW.trod_string Tryz.underlying9 f0
      simp at e
      subst e
      exact ⟨s, rfl⟩
theorem type_of_trod {cs : List Value} {x : DataW H × List MemPlace} (hf : DataW.trod enc Tryz.prog W base sp held fuel 26 cs = some x) : ∃ (k n : Int) (t : ByteArray) (pa na ma : Option Addr) (pn pc nn nc mn mc : Nat), cs = [.int .i64 k, .int .i64 n, .string t, .slice pa pn pc, .slice na nn nc, .slice ma mn mc] ∧ StrRow W na nn nc 1 := by
  obtain ⟨xs, n, _, hx, hl, hlen, hfs⟩ := DataW.trod_struct Tryz.underlying26 hf
  have c26 : Tryz.prog.cellsOf 26 = 6 := by kernel_rfl
  have c3 : Tryz.prog.cellsOf 3 = 1 := by kernel_rfl
  have c9 : Tryz.prog.cellsOf 9 = 1 := by kernel_rfl
  have c22 : Tryz.prog.cellsOf 22 = 1 := by kernel_rfl
  have c23 : Tryz.prog.cellsOf 23 = 1 := by kernel_rfl
  have c24 : Tryz.prog.cellsOf 24 = 1 := by kernel_rfl
  rw [c26] at hl
  match cs, hl with
  | [v0, v1, v2, v3, v4, v5], _ =>
    have f0 := hfs 0 _ rfl
    have f1 := hfs 1 _ rfl
    have f2 := hfs 2 _ rfl
    have f3 := hfs 3 _ rfl
    have f4 := hfs 4 _ rfl
    have f5 := hfs 5 _ rfl
    match xs, hlen with
    | [y0, y1, y2, y3, y4, y5], _ =>
      simp at f0 f1 f2 f3 f4 f5
      rw [c3] at f0 f1
      rw [c9] at f2
      rw [c22] at f3
      rw [c23] at f4
      rw [c24] at f5
      simp at f0 f1 f2 f3 f4 f5
      obtain ⟨k, e0, _⟩ := DataW.trod_int Tryz.underlying3 f0
      obtain ⟨nm, e1, _⟩ := DataW.trod_int Tryz.underlying3 f1
      obtain ⟨s, e2, _⟩ := DataW.trod_string Tryz.underlying9 f2
      obtain ⟨pa, pn, pc, e3⟩ := slice_of_trod Tryz.underlying22 f3
      obtain ⟨na, nn, nc, e4, hr⟩ := strRow_of_trod (k := 1) Tryz.underlying23 c9 (by decide) str_first f4
      obtain ⟨ma, mn, mc, e5⟩ := slice_of_trod Tryz.underlying24 f5
      simp at e0 e1 e2
      subst e0 e1 e2 e3 e4 e5
      exact ⟨k, nm, s, pa, na, ma, pn, pc, nn, nc, mn, mc, rfl, hr⟩
theorem open_step {r : Reach} {b0 : Nat} {v : Value} {d : DataW H} {p : List MemPlace} (hval : Value.okWide Tryz.prog W r b0 29 v) (h : DataW.Trod enc Tryz.prog W base sp held 29 v d p) :
    ∃ s : Sp, v = .agg s.cells ∧ StrRow W s.na s.nn s.nc 1 ∧ StrRow W s.ca s.cn s.cc 3 := by
  obtain ⟨cs, rfl, hsz⟩ := okWide_struct Tryz.underlying29 hval
  obtain ⟨fuel, hf⟩ := h
  obtain ⟨xs, n, _, hx, hl, hlen, hfs⟩ := DataW.trod_struct Tryz.underlying29 hf
  have c29 : Tryz.prog.cellsOf 29 = 12 := by kernel_rfl
  have c26 : Tryz.prog.cellsOf 26 = 6 := by kernel_rfl
  have c3 : Tryz.prog.cellsOf 3 = 1 := by kernel_rfl
  have c22 : Tryz.prog.cellsOf 22 = 1 := by kernel_rfl
  have c27 : Tryz.prog.cellsOf 27 = 1 := by kernel_rfl
  have c69 : Tryz.prog.cellsOf 69 = 3 := by kernel_rfl
  rw [c29] at hsz
  obtain ⟨l⟩ := cs
  match l, hsz with
  | [v0, v1, v2, v3, v4, v5, v6, v7, v8, v9, v10, v11], _ =>
    have f0 := hfs 0 _ rfl
    have f1 := hfs 1 _ rfl
    have f2 := hfs 2 _ rfl
    have f3 := hfs 3 _ rfl
    have f4 := hfs 4 _ rfl
    have f5 := hfs 5 _ rfl
    have f6 := hfs 6 _ rfl
    match xs, hlen with
    | [y0, y1, y2, y3, y4, y5, y6], _ =>
      simp [Value.cells, c3, c26, c22, c27] at f0 f1 f2 f3 f4 f5 f6
      obtain ⟨k, e0, _⟩ := DataW.trod_int Tryz.underlying3 f0
      obtain ⟨tk, tn, tt, pa, na, ma, pn, pc, nn, nc, mn, mc, e1, hr1⟩ := type_of_trod f1
      obtain ⟨id, e2, _⟩ := DataW.trod_int Tryz.underlying3 f2
      obtain ⟨ia, il, ic, e3⟩ := slice_of_trod Tryz.underlying22 f3
      obtain ⟨nd, e4, _⟩ := DataW.trod_int Tryz.underlying3 f4
      obtain ⟨va, vn, vc, e5⟩ := slice_of_trod Tryz.underlying22 f5
      obtain ⟨ca, cn, cc, e6, hr6⟩ := strRow_of_trod (k := 3) Tryz.underlying27 c69 (by decide) piece_first f6
      simp at e0 e1 e2 e4
      obtain ⟨g1, g2, g3, g4, g5, g6⟩ := e1
      subst e0 g1 g2 g3 g4 g5 g6 e2 e3 e4 e5 e6
      exact ⟨⟨k, tk, tn, tt, pa, pn, pc, na, nn, nc, ma, mn, mc, id, ia, il, ic, nd, va, vn, vc, ca, cn, cc⟩, rfl, hr1, hr6⟩
end
end Go.Proofs.YtapnnbgcdijfpaaGreatDoor

/- What a law is told of a value that came in, and the listed variables. -/
import Derived.ProofKit
import Derived.LaidMore
import Derived.OpenShut
import Derived.ShutString
import Derived.ChangeOld
import Derived.Stop.Joined
import Derived.ChangeMaps5
import Derived.SizedLaws
import Derived.Test.YtdgocaokmmhenaaGreatDoorTie
import Derived.Test.YtdgocaokmmhenaaGreatDoorV0
namespace Go.Proofs.YtdgocaokmmhenaaGreatDoor
set_option linter.unusedSimpArgs false
set_option linter.unusedVariables false
open Go.ChangeShapes Go.WideShapes Go.ChangeAt Go.RowKit

theorem own : ownKnob Tryz.prog.godebug = none := by kernel_rfl
theorem laidOut : laidOutB Tryz.prog = true := by kernel_rfl
/-- The three listed variables. -/
def laid3 : List (String × DataW Unit) := [("math/bits.deBruijn32tab", Rows.laid_math_bits_deBruijn32tab), ("math/bits.deBruijn64tab", Rows.laid_math_bits_deBruijn64tab), ("internal/strconv.uint64pow10", Rows.laid_internal_strconv_uint64pow10)]
set_option maxRecDepth 100000 in
theorem door_met (os : Os) (args : Array Value) : laidMetH Tryz.prog laid3 ((World.doorLaid Tryz.prog 24 os).forCall (fun _ _ => 0) ⟨#[], args, []⟩).memory :=
  laidMetH_of_parts3 (fuel := 8) (laidMet_of_run' 8 (by kernel_rfl) (by kernel_rfl)) (by kernel_rfl) (by kernel_rfl)
set_option maxRecDepth 100000 in
/-- A value that came in: its kind, its number, its text. -/
theorem open_value {H : Type} {enc : TypeId × Value → H} {W : World} {r : Reach} {b0 base : Nat} {sp : Nat → Bool} {held : Bool} {v : Value} {d : DataW H} {p : List MemPlace} (hval : Value.okWide Tryz.prog W r b0 23 v) (h : DataW.Trod enc Tryz.prog W base sp held 23 v d p) :
    ∃ (k n : Int) (t : ByteArray), v = .agg (Vc k n t) ∧ d = .agg [.lit (.int .i64 k), .lit (.int .i64 n), .lit (.string t.data.toList)] ∧ (Lit.int .i64 k).wf = true ∧ (Lit.int .i64 n).wf = true := by
  obtain ⟨cs, rfl, hsz⟩ := okWide_struct Tryz.underlying23 hval
  obtain ⟨fuel, hf⟩ := h
  obtain ⟨xs, m, _, hx, hl, hlen, hfs⟩ := DataW.trod_struct Tryz.underlying23 hf
  have c23 : Tryz.prog.cellsOf 23 = 3 := by kernel_rfl
  have c3 : Tryz.prog.cellsOf 3 = 1 := by kernel_rfl
  have c9 : Tryz.prog.cellsOf 9 = 1 := by kernel_rfl
  rw [c23] at hsz
  obtain ⟨l⟩ := cs
  match l, hsz with
  | [v0, v1, v2], _ =>
    have f0 := hfs 0 _ rfl
    have f1 := hfs 1 _ rfl
    have f2 := hfs 2 _ rfl
    simp only [Value.cells, c3, c9, List.drop, List.take] at f0 f1 f2
    match xs, hlen with
    | [y0, y1, y2], _ =>
      simp at f0 f1 f2
      rw [c3] at f0 f1
      rw [c9] at f2
      obtain ⟨k, e0, rfl, w0⟩ := DataW.trod_int Tryz.underlying3 f0
      obtain ⟨n, e1, rfl, w1⟩ := DataW.trod_int Tryz.underlying3 f1
      obtain ⟨s, e2, rfl, _⟩ := DataW.trod_string Tryz.underlying9 f2
      simp at e0 e1 e2 hx
      subst e0 e1 e2
      exact ⟨k, n, s, rfl, hx.1, w0, w1⟩
theorem value_weight {H : Type} (k n : Int) (s : ByteArray) : s.data.toList.length ∈ DataW.weights Tryz.prog 23 (.agg [.lit (.int .i64 k), .lit (.int .i64 n), .lit (.string s.data.toList)] : DataW H) := by
  simp [DataW.weights, Tryz.underlying23, DataW.weightsEach]
end Go.Proofs.YtdgocaokmmhenaaGreatDoor

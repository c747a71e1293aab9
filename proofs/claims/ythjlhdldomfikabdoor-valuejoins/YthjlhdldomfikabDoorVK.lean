/- A box of a value, later on. -/
import Derived.Test.YthjlhdldomfikabDoorVJ
namespace Go.Proofs.YthjlhdldomfikabDoor
set_option linter.unusedSimpArgs false
set_option linter.unusedVariables false
set_option maxRecDepth 100000
open Go.RowKit Go.Shelf

theorem Bv.up {w w' : World} {b : Nat} {k n : Int} {t : ByteArray} (h : Bv w b k n t) (hb : Below w.heap.size w w') : Bv w' b k n t := Bx.below h hb (Bx.lt h)
end Go.Proofs.YthjlhdldomfikabDoor

/- Facts kept from the walk; values as data. -/
import Derived.Test.YtdgocaokmmhenaaGreatDoorRows
import Derived.WalkKit
import Derived.WalkSpells
import Derived.WalkLawsBesides
import Derived.Below
import Derived.Laws.EntriesVeiled
import Derived.Laws.Shifts
namespace Go.Proofs.YtdgocaokmmhenaaGreatDoor
set_option linter.unusedSimpArgs false
set_option linter.unusedVariables false
open Go.RowKit
theorem hide {p : Prop} (h : p) : Hid p := h
theorem unhide {p : Prop} (h : Hid p) : p := h

/-- The cells of a value of the program: kind, number, text. -/
def Vc (k n : Int) (t : ByteArray) : Array Value := #[.int .i64 k, .int .i64 n, .string t]
/-- In whatever world the call answers this, and turns nothing that lay there. -/
def Ret (f : FuncId) (args : Array Value) (v : Value) : Prop := ∀ W, Calls Tryz.prog f args W fun e w' => e = .returned v ∧ Below W.heap.size W w'
/-- A truth value's number. -/
def bI (b : Bool) : Int := if b then 1 else 0
def clampN (n : Int) : Int := if n < -9007199254740991 then -9007199254740991 else if 9007199254740991 < n then 9007199254740991 else n
def stlK (k : Int) : Int := if k = 1 ∨ k = 2 ∨ k = 3 ∨ k = 4 ∨ k = 5 then k else 0
def stlN (k n : Int) : Int := if k = 2 then bI (n != 0) else if k = 3 then clampN n else if k = 5 then n else 0
def stlT (k : Int) (t : ByteArray) : ByteArray := if k = 4 then t else ByteArray.empty
/-- What an operator answers. -/
structure R5 where
  k : Int
  n : Int
  t : ByteArray
  s : ByteArray
  f : Int
end Go.Proofs.YtdgocaokmmhenaaGreatDoor

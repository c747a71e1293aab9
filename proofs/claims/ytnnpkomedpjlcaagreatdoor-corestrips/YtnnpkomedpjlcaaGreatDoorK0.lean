/- Plain nodes, purely. -/
import Derived.Test.YtnnpkomedpjlcaaGreatDoorT1
namespace Go.Proofs.YtnnpkomedpjlcaaGreatDoor
set_option linter.unusedSimpArgs false
set_option linter.unusedVariables false
open Go.RowKit

/-- The kid at a place. -/
def kd (l : List Nd) (n i : Nat) : Nd := nd l ((nd l n).kids.getD i 0).toNat
def emptyK (l : List Nd) (n i : Nat) : Bool := (kd l n i).kids.length == 0
def noneK (l : List Nd) (n i : Nat) : Bool := (kd l n i).kind == 1
/-- Kinds of types. -/
def typeK (k : Int) : Bool := decide (80 ≤ k) && decide (k ≤ 87) && k != 85
/-- Kinds of which no node is plain. -/
def typedK (k : Int) : Bool := k == 33 || k == 34 || k == 47 || k == 48 || k == 49 || k == 50 || k == 51 || k == 52 || k == 67 || k == 85 || typeK k
/-- Nothing of types in a node's places. -/
def bareP (l : List Nd) (n : Nat) : Bool :=
  if (nd l n).kind = 22 ∨ (nd l n).kind = 43 then emptyK l n 0
  else if (nd l n).kind = 41 ∨ (nd l n).kind = 45 then emptyK l n 0 && noneK l n 2
  else if (nd l n).kind = 42 then emptyK l n 0 && emptyK l n 2
  else if (nd l n).kind = 27 ∨ (nd l n).kind = 28 then emptyK l n 1
  else if (nd l n).kind = 40 then noneK l n 0
  else if (nd l n).kind = 66 then noneK l n 0 && (nd l n).num == 0
  else if (nd l n).kind = 44 then noneK l n 0 && (nd l n).num == 0 && !noneK l n 1
  else true
def plainP (l : List Nd) (n : Nat) : Bool := !typedK (nd l n).kind && bareP l n
/-- How many kids of a node its kind's places ask. -/
def need (k : Int) : Nat :=
  if k = 22 ∨ k = 43 then 1 else if k = 41 ∨ k = 45 then 3 else if k = 42 then 3 else if k = 27 ∨ k = 28 then 2 else if k = 40 then 1 else if k = 66 then 1 else if k = 44 then 2 else 0
end Go.Proofs.YtnnpkomedpjlcaaGreatDoor

/- The comparing function literal of shucklaw1.TextLines: what it leaves. -/
import Derived.StillTailTactics
import Derived.Test.YtponficlejjafaaDoorK5
namespace Go.Proofs.YtponficlejjafaaDoor
set_option linter.unusedSimpArgs false
set_option linter.unusedVariables false
open Go.RowKit Go.Shelf

/-- Is it the n-th line? -/
def fitsL (g : Nat → Int) (l : List (Nat × Nat)) (n at' : Nat) (s : ByteArray) : Bool :=
  match l[n]? with
  | none => false
  | some y => decide (at' = y.1) && (s.toList == (strOfNums (sub g y.1 y.2)).toList)

theorem fr_drew {S0 : Nat → Prop} {A B : World} (h : Fr S0 A B) : Fr S0 A B.drew := ⟨h.os, h.tape, h.output, h.size, h.block⟩
theorem ko_drew {A B : World} (h : KeepsOthers A B) : KeepsOthers A B.drew := ⟨h.size, h.same⟩
/-- What the literal leaves. -/
def Cl24P (Bo Bn Bs n : Nat) (r : Bool) (S : ByteArray) (A : World) (e : Ending) (A' : World) : Prop :=
  e = .returned (.bool r) ∧ Fr (fun k => k = Bo ∨ k = Bn ∨ k = Bs) A A' ∧ KeepsOthers A A' ∧ Boxed A' Bo 4 (.bool r) ∧ Boxed A' Bn 3 (.int .i64 ((n : Int) + 1)) ∧ Boxed A' Bs 9 (.string S)
end Go.Proofs.YtponficlejjafaaDoor

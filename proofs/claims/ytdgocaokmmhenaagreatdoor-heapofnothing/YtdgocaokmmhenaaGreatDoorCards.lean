/-
  DERIVED. GIVEN WITH THE SEED: THE CARDS: each row of YtdgocaokmmhenaaGreatDoorRows.lean that lists a variable, with what it lists TIED to the program's text (the seventh form; the later family's looks); each row that meets fmt, with fmt's text TOLD by the authors' own Lean function (tested against real Go, not proved from fmt's source: count such statements apart). THE CARD IS WHAT COUNTS. Prove the row's statement (the work); the ties are given (YtdgocaokmmhenaaGreatDoorTie.lean); close each card by the builder's one call (the guide's Derived/Test/ToyasCard.lean, 'card_holds'). Laid BY PROGRAM, IN A SANDBOX (cutbox-door.mjs). By AI agents, Wed Nov 11 2026. No macro, syntax, notation, axiom, sorry.
-/
import Derived.Test.YtdgocaokmmhenaaGreatDoorRows
import GoSem.ClaimSeven
namespace Go.Proofs.YtdgocaokmmhenaaGreatDoor
namespace Rows

/-- THE TIED CARD OF 'shucklaw15.HeapOfNothing'. -/
def heapOfNothingCard : Claim7 := { stood := { row := heapOfNothingRow, standIns := [], harness := (true, "0b733547a6e23fd54300b724370646ee84b3b94bd093d0607e989f8fdb0a0582"), looks := true }, kinds := [], alts := [], laidByText := true, laidKinds := [.data, .data, .data], laidTests := true, laidLooks := .later }
def HeapOfNothingCardSaid : Prop := Claim7.holds Tryz.pinned (.plain (OpenSpec.ofChange heapOfNothingSpec)) heapOfNothingCard

/-- THE SECOND FORM's CARD OF 'shucklaw15.HeapOfNothing'. -/
def heapOfNothingUptoCard : Claim7 := { stood := { row := heapOfNothingUptoRow, standIns := [], harness := (true, "0b733547a6e23fd54300b724370646ee84b3b94bd093d0607e989f8fdb0a0582"), looks := true }, kinds := [], alts := [], laidByText := true, laidKinds := [.data, .data, .data], laidTests := true, laidLooks := .later }
def HeapOfNothingUptoCardSaid : Prop := Claim7.holds Tryz.pinned (.plain (OpenSpec.upto heapOfNothingSpec)) heapOfNothingUptoCard
end Rows
end Go.Proofs.YtdgocaokmmhenaaGreatDoor

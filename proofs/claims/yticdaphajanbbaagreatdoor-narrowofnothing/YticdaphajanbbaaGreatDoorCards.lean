/-
  DERIVED. GIVEN WITH THE SEED: THE CARDS: each row of YticdaphajanbbaaGreatDoorRows.lean that lists a variable, with what it lists TIED to the program's text (the seventh form; the later family's looks); each row that meets fmt, with fmt's text TOLD by the authors' own Lean function (tested against real Go, not proved from fmt's source: count such statements apart). THE CARD IS WHAT COUNTS. Prove the row's statement (the work); the ties are given (YticdaphajanbbaaGreatDoorTie.lean); close each card by the builder's one call (the guide's Derived/Test/ToyasCard.lean, 'card_holds'). Laid BY PROGRAM, IN A SANDBOX (cutbox-door.mjs). By AI agents, Wed Nov 11 2026. No macro, syntax, notation, axiom, sorry.
-/
import Derived.Test.YticdaphajanbbaaGreatDoorRows
import GoSem.ClaimSeven
namespace Go.Proofs.YticdaphajanbbaaGreatDoor
namespace Rows

/-- THE TIED CARD OF 'shucklaw10.NarrowOfNothing'. -/
def narrowOfNothingCard : Claim7 := { stood := { row := narrowOfNothingRow, standIns := [], harness := (true, "92b56ea8c5ecd1f04387274816445c67924677718da7733a1291c06bff9b9d34"), looks := true }, kinds := [], alts := [], laidByText := true, laidKinds := [.data, .data, .data, .data, .sentinel, .sentinel, .pinned], laidTests := true, laidLooks := .later }
def NarrowOfNothingCardSaid : Prop := Claim7.holds Tryz.pinned (.plain (OpenSpec.ofChange narrowOfNothingSpec)) narrowOfNothingCard

/-- THE SECOND FORM's CARD OF 'shucklaw10.NarrowOfNothing'. -/
def narrowOfNothingUptoCard : Claim7 := { stood := { row := narrowOfNothingUptoRow, standIns := [], harness := (true, "92b56ea8c5ecd1f04387274816445c67924677718da7733a1291c06bff9b9d34"), looks := true }, kinds := [], alts := [], laidByText := true, laidKinds := [.data, .data, .data, .data, .sentinel, .sentinel, .pinned], laidTests := true, laidLooks := .later }
def NarrowOfNothingUptoCardSaid : Prop := Claim7.holds Tryz.pinned (.plain (OpenSpec.upto narrowOfNothingSpec)) narrowOfNothingUptoCard
end Rows
end Go.Proofs.YticdaphajanbbaaGreatDoor

/-
  DERIVED. GIVEN WITH THE SEED: THE CARDS: each row of YtapnnbgcdijfpaaGreatDoorRows.lean that lists a variable, with what it lists TIED to the program's text (the seventh form; the later family's looks); each row that meets fmt, with fmt's text TOLD by the authors' own Lean function (tested against real Go, not proved from fmt's source: count such statements apart). THE CARD IS WHAT COUNTS. Prove the row's statement (the work); the ties are given (YtapnnbgcdijfpaaGreatDoorTie.lean); close each card by the builder's one call (the guide's Derived/Test/ToyasCard.lean, 'card_holds'). Laid BY PROGRAM, IN A SANDBOX (cutbox-door.mjs). By AI agents, Wed Nov 11 2026. No macro, syntax, notation, axiom, sorry.
-/
import Derived.Test.YtapnnbgcdijfpaaGreatDoorRows
import GoSem.ClaimSeven
namespace Go.Proofs.YtapnnbgcdijfpaaGreatDoor
namespace Rows

/-- THE TIED CARD OF 'shucklaw8.KindsOfNothing'. -/
def kindsOfNothingCard : Claim7 := { stood := { row := kindsOfNothingRow, standIns := [], harness := (true, "070c56528e46e09741c52ee6676eb842b35ed0b0f783eeb81858daf129419b45"), looks := true }, kinds := [], alts := [], laidByText := true, laidKinds := [.data, .data, .data, .data, .sentinel, .sentinel, .pinned], laidTests := true, laidLooks := .later }
def KindsOfNothingCardSaid : Prop := Claim7.holds Tryz.pinned (.plain (OpenSpec.ofChange kindsOfNothingSpec)) kindsOfNothingCard

/-- THE TIED CARD OF 'shucklaw8.KindsUnions'. -/
def kindsUnionsCard : Claim7 := { stood := { row := kindsUnionsRow, standIns := [], harness := (true, "070c56528e46e09741c52ee6676eb842b35ed0b0f783eeb81858daf129419b45"), looks := true }, kinds := [], alts := [], laidByText := true, laidKinds := [.data, .data, .data, .data, .sentinel, .sentinel, .pinned], laidTests := true, laidLooks := .later }
def KindsUnionsCardSaid : Prop := Claim7.holds Tryz.pinned (.plain (OpenSpec.ofChange kindsUnionsSpec)) kindsUnionsCard

/-- THE TIED CARD OF 'shucklaw8.KindsSame'. -/
def kindsSameCard : Claim7 := { stood := { row := kindsSameRow, standIns := [], harness := (true, "070c56528e46e09741c52ee6676eb842b35ed0b0f783eeb81858daf129419b45"), looks := true }, kinds := [], alts := [], laidByText := true, laidKinds := [.data, .data, .data, .data, .sentinel, .sentinel, .pinned], laidTests := true, laidLooks := .later }
def KindsSameCardSaid : Prop := Claim7.holds Tryz.pinned (.plain (OpenSpec.ofChange kindsSameSpec)) kindsSameCard

/-- THE TIED CARD OF 'shucklaw9.RelateOfNothing'. -/
def relateOfNothingCard : Claim7 := { stood := { row := relateOfNothingRow, standIns := [], harness := (true, "070c56528e46e09741c52ee6676eb842b35ed0b0f783eeb81858daf129419b45"), looks := true }, kinds := [], alts := [], laidByText := true, laidKinds := [.data, .data, .data, .data, .sentinel, .sentinel, .pinned], laidTests := true, laidLooks := .later }
def RelateOfNothingCardSaid : Prop := Claim7.holds Tryz.pinned (.plain (OpenSpec.ofChange relateOfNothingSpec)) relateOfNothingCard

/-- THE TIED CARD OF 'shucklaw9.RelateSelf'. -/
def relateSelfCard : Claim7 := { stood := { row := relateSelfRow, standIns := [], harness := (true, "070c56528e46e09741c52ee6676eb842b35ed0b0f783eeb81858daf129419b45"), looks := true }, kinds := [], alts := [], laidByText := true, laidKinds := [.data, .data, .data, .data, .sentinel, .sentinel, .pinned], laidTests := true, laidLooks := .later }
def RelateSelfCardSaid : Prop := Claim7.holds Tryz.pinned (.plain (OpenSpec.ofChange relateSelfSpec)) relateSelfCard

/-- THE TIED CARD OF 'shucklaw9.RelateUnions'. -/
def relateUnionsCard : Claim7 := { stood := { row := relateUnionsRow, standIns := [], harness := (true, "070c56528e46e09741c52ee6676eb842b35ed0b0f783eeb81858daf129419b45"), looks := true }, kinds := [], alts := [], laidByText := true, laidKinds := [.data, .data, .data, .data, .sentinel, .sentinel, .pinned], laidTests := true, laidLooks := .later }
def RelateUnionsCardSaid : Prop := Claim7.holds Tryz.pinned (.plain (OpenSpec.ofChange relateUnionsSpec)) relateUnionsCard

/-- THE SECOND FORM's CARD OF 'shucklaw8.KindsOfNothing'. -/
def kindsOfNothingUptoCard : Claim7 := { stood := { row := kindsOfNothingUptoRow, standIns := [], harness := (true, "070c56528e46e09741c52ee6676eb842b35ed0b0f783eeb81858daf129419b45"), looks := true }, kinds := [], alts := [], laidByText := true, laidKinds := [.data, .data, .data, .data, .sentinel, .sentinel, .pinned], laidTests := true, laidLooks := .later }
def KindsOfNothingUptoCardSaid : Prop := Claim7.holds Tryz.pinned (.plain (OpenSpec.upto kindsOfNothingSpec)) kindsOfNothingUptoCard

/-- THE SECOND FORM's CARD OF 'shucklaw8.KindsUnions'. -/
def kindsUnionsUptoCard : Claim7 := { stood := { row := kindsUnionsUptoRow, standIns := [], harness := (true, "070c56528e46e09741c52ee6676eb842b35ed0b0f783eeb81858daf129419b45"), looks := true }, kinds := [], alts := [], laidByText := true, laidKinds := [.data, .data, .data, .data, .sentinel, .sentinel, .pinned], laidTests := true, laidLooks := .later }
def KindsUnionsUptoCardSaid : Prop := Claim7.holds Tryz.pinned (.plain (OpenSpec.upto kindsUnionsSpec)) kindsUnionsUptoCard

/-- THE SECOND FORM's CARD OF 'shucklaw8.KindsSame'. -/
def kindsSameUptoCard : Claim7 := { stood := { row := kindsSameUptoRow, standIns := [], harness := (true, "070c56528e46e09741c52ee6676eb842b35ed0b0f783eeb81858daf129419b45"), looks := true }, kinds := [], alts := [], laidByText := true, laidKinds := [.data, .data, .data, .data, .sentinel, .sentinel, .pinned], laidTests := true, laidLooks := .later }
def KindsSameUptoCardSaid : Prop := Claim7.holds Tryz.pinned (.plain (OpenSpec.upto kindsSameSpec)) kindsSameUptoCard

/-- THE SECOND FORM's CARD OF 'shucklaw9.RelateOfNothing'. -/
def relateOfNothingUptoCard : Claim7 := { stood := { row := relateOfNothingUptoRow, standIns := [], harness := (true, "070c56528e46e09741c52ee6676eb842b35ed0b0f783eeb81858daf129419b45"), looks := true }, kinds := [], alts := [], laidByText := true, laidKinds := [.data, .data, .data, .data, .sentinel, .sentinel, .pinned], laidTests := true, laidLooks := .later }
def RelateOfNothingUptoCardSaid : Prop := Claim7.holds Tryz.pinned (.plain (OpenSpec.upto relateOfNothingSpec)) relateOfNothingUptoCard

/-- THE SECOND FORM's CARD OF 'shucklaw9.RelateSelf'. -/
def relateSelfUptoCard : Claim7 := { stood := { row := relateSelfUptoRow, standIns := [], harness := (true, "070c56528e46e09741c52ee6676eb842b35ed0b0f783eeb81858daf129419b45"), looks := true }, kinds := [], alts := [], laidByText := true, laidKinds := [.data, .data, .data, .data, .sentinel, .sentinel, .pinned], laidTests := true, laidLooks := .later }
def RelateSelfUptoCardSaid : Prop := Claim7.holds Tryz.pinned (.plain (OpenSpec.upto relateSelfSpec)) relateSelfUptoCard

/-- THE SECOND FORM's CARD OF 'shucklaw9.RelateUnions'. -/
def relateUnionsUptoCard : Claim7 := { stood := { row := relateUnionsUptoRow, standIns := [], harness := (true, "070c56528e46e09741c52ee6676eb842b35ed0b0f783eeb81858daf129419b45"), looks := true }, kinds := [], alts := [], laidByText := true, laidKinds := [.data, .data, .data, .data, .sentinel, .sentinel, .pinned], laidTests := true, laidLooks := .later }
def RelateUnionsUptoCardSaid : Prop := Claim7.holds Tryz.pinned (.plain (OpenSpec.upto relateUnionsSpec)) relateUnionsUptoCard
end Rows
end Go.Proofs.YtapnnbgcdijfpaaGreatDoor

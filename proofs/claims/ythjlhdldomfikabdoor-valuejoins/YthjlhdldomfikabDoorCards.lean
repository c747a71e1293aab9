/-
  DERIVED. GIVEN WITH THE SEED: THE CARDS: each row of YthjlhdldomfikabDoorRows.lean that lists a variable, with what it lists TIED to the program's text (the seventh form; the later family's looks); each row that meets fmt, with fmt's text TOLD by the authors' own Lean function (tested against real Go, not proved from fmt's source: count such statements apart). THE CARD IS WHAT COUNTS. Prove the row's statement (the work); the ties are given (YthjlhdldomfikabDoorTie.lean); close each card by the builder's one call (the guide's Derived/Test/ToyasCard.lean, 'card_holds'). Laid BY PROGRAM, IN A SANDBOX (cutbox-door.mjs). By AI agents, Wed Nov 11 2026. No macro, syntax, notation, axiom, sorry.
-/
import Derived.Test.YthjlhdldomfikabDoorRows
import GoSem.ClaimSeven
namespace Go.Proofs.YthjlhdldomfikabDoor
namespace Rows

/-- THE TIED CARD OF 'shucklaw14.ValueBits'. -/
def valueBitsCard : Claim7 := { stood := { row := valueBitsRow, standIns := [], harness := (true, "c029832465c1ec27c03ed40c9954533e781532910035f701fff28ba9738040a7"), looks := false }, kinds := [], alts := [], laidByText := true, laidKinds := [.data, .data, .data], laidTests := true, laidLooks := .later }
def ValueBitsCardSaid : Prop := Claim7.holds Tryd.pinned (.plain (OpenSpec.ofChange valueBitsSpec)) valueBitsCard

/-- THE TIED CARD OF 'shucklaw14.ValueShifts'. -/
def valueShiftsCard : Claim7 := { stood := { row := valueShiftsRow, standIns := [], harness := (true, "c029832465c1ec27c03ed40c9954533e781532910035f701fff28ba9738040a7"), looks := false }, kinds := [], alts := [], laidByText := true, laidKinds := [.data, .data, .data], laidTests := true, laidLooks := .later }
def ValueShiftsCardSaid : Prop := Claim7.holds Tryd.pinned (.plain (OpenSpec.ofChange valueShiftsSpec)) valueShiftsCard

/-- THE TIED CARD OF 'shucklaw14.ValueDivides'. -/
def valueDividesCard : Claim7 := { stood := { row := valueDividesRow, standIns := [], harness := (true, "c029832465c1ec27c03ed40c9954533e781532910035f701fff28ba9738040a7"), looks := false }, kinds := [], alts := [], laidByText := true, laidKinds := [.data, .data, .data], laidTests := true, laidLooks := .later }
def ValueDividesCardSaid : Prop := Claim7.holds Tryd.pinned (.plain (OpenSpec.ofChange valueDividesSpec)) valueDividesCard

/-- THE TIED CARD OF 'shucklaw14.ValueJoins'. -/
def valueJoinsCard : Claim7 := { stood := { row := valueJoinsRow, standIns := [], harness := (true, "c029832465c1ec27c03ed40c9954533e781532910035f701fff28ba9738040a7"), looks := false }, kinds := [], alts := [], laidByText := true, laidKinds := [.data, .data, .data], laidTests := true, laidLooks := .later }
def ValueJoinsCardSaid : Prop := Claim7.holds Tryd.pinned (.plain (OpenSpec.ofChange valueJoinsSpec)) valueJoinsCard

/-- THE SECOND FORM's CARD OF 'shucklaw14.ValueBits'. -/
def valueBitsUptoCard : Claim7 := { stood := { row := valueBitsUptoRow, standIns := [], harness := (true, "c029832465c1ec27c03ed40c9954533e781532910035f701fff28ba9738040a7"), looks := false }, kinds := [], alts := [], laidByText := true, laidKinds := [.data, .data, .data], laidTests := true, laidLooks := .later }
def ValueBitsUptoCardSaid : Prop := Claim7.holds Tryd.pinned (.plain (OpenSpec.upto valueBitsSpec)) valueBitsUptoCard

/-- THE SECOND FORM's CARD OF 'shucklaw14.ValueShifts'. -/
def valueShiftsUptoCard : Claim7 := { stood := { row := valueShiftsUptoRow, standIns := [], harness := (true, "c029832465c1ec27c03ed40c9954533e781532910035f701fff28ba9738040a7"), looks := false }, kinds := [], alts := [], laidByText := true, laidKinds := [.data, .data, .data], laidTests := true, laidLooks := .later }
def ValueShiftsUptoCardSaid : Prop := Claim7.holds Tryd.pinned (.plain (OpenSpec.upto valueShiftsSpec)) valueShiftsUptoCard

/-- THE SECOND FORM's CARD OF 'shucklaw14.ValueDivides'. -/
def valueDividesUptoCard : Claim7 := { stood := { row := valueDividesUptoRow, standIns := [], harness := (true, "c029832465c1ec27c03ed40c9954533e781532910035f701fff28ba9738040a7"), looks := false }, kinds := [], alts := [], laidByText := true, laidKinds := [.data, .data, .data], laidTests := true, laidLooks := .later }
def ValueDividesUptoCardSaid : Prop := Claim7.holds Tryd.pinned (.plain (OpenSpec.upto valueDividesSpec)) valueDividesUptoCard

/-- THE SECOND FORM's CARD OF 'shucklaw14.ValueJoins'. -/
def valueJoinsUptoCard : Claim7 := { stood := { row := valueJoinsUptoRow, standIns := [], harness := (true, "c029832465c1ec27c03ed40c9954533e781532910035f701fff28ba9738040a7"), looks := false }, kinds := [], alts := [], laidByText := true, laidKinds := [.data, .data, .data], laidTests := true, laidLooks := .later }
def ValueJoinsUptoCardSaid : Prop := Claim7.holds Tryd.pinned (.plain (OpenSpec.upto valueJoinsSpec)) valueJoinsUptoCard
end Rows
end Go.Proofs.YthjlhdldomfikabDoor

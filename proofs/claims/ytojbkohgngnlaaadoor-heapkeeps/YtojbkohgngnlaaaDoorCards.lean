/-
  DERIVED. GIVEN WITH THE SEED: THE CARDS: each row of YtojbkohgngnlaaaDoorRows.lean that lists a variable, with what it lists TIED to the program's text (the seventh form; the later family's looks); each row that meets fmt, with fmt's text TOLD by the authors' own Lean function (tested against real Go, not proved from fmt's source: count such statements apart). THE CARD IS WHAT COUNTS. Prove the row's statement (the work); the ties are given (YtojbkohgngnlaaaDoorTie.lean); close each card by the builder's one call (the guide's Derived/Test/ToyasCard.lean, 'card_holds'). Laid BY PROGRAM, IN A SANDBOX (cutbox-door.mjs). By AI agents, Wed Nov 11 2026. No macro, syntax, notation, axiom, sorry.
-/
import Derived.Test.YtojbkohgngnlaaaDoorRows
import GoSem.ClaimSeven
namespace Go.Proofs.YtojbkohgngnlaaaDoor
namespace Rows

/-- THE TIED CARD OF 'shucklaw15.HeapKeeps'. -/
def heapKeepsCard : Claim7 := { stood := { row := heapKeepsRow, standIns := [], harness := (true, "d6ace1321d21d12e234c85266517eead876858c3432ae28bcb5b28777eeb2643"), looks := true }, kinds := [], alts := [], laidByText := true, laidKinds := [.data, .data, .data], laidTests := true, laidLooks := .later }
def HeapKeepsCardSaid : Prop := Claim7.holds Tryd.pinned (.plain (OpenSpec.ofChange heapKeepsSpec)) heapKeepsCard

/-- THE TIED CARD OF 'shucklaw15.HeapArrays'. -/
def heapArraysCard : Claim7 := { stood := { row := heapArraysRow, standIns := [], harness := (true, "d6ace1321d21d12e234c85266517eead876858c3432ae28bcb5b28777eeb2643"), looks := true }, kinds := [], alts := [], laidByText := true, laidKinds := [.data, .data, .data], laidTests := true, laidLooks := .later }
def HeapArraysCardSaid : Prop := Claim7.holds Tryd.pinned (.plain (OpenSpec.ofChange heapArraysSpec)) heapArraysCard

/-- THE TIED CARD OF 'shucklaw15.HeapBehind'. -/
def heapBehindCard : Claim7 := { stood := { row := heapBehindRow, standIns := [], harness := (true, "d6ace1321d21d12e234c85266517eead876858c3432ae28bcb5b28777eeb2643"), looks := true }, kinds := [], alts := [], laidByText := true, laidKinds := [.data, .data, .data], laidTests := true, laidLooks := .later }
def HeapBehindCardSaid : Prop := Claim7.holds Tryd.pinned (.plain (OpenSpec.ofChange heapBehindSpec)) heapBehindCard

/-- THE SECOND FORM's CARD OF 'shucklaw15.HeapKeeps'. -/
def heapKeepsUptoCard : Claim7 := { stood := { row := heapKeepsUptoRow, standIns := [], harness := (true, "d6ace1321d21d12e234c85266517eead876858c3432ae28bcb5b28777eeb2643"), looks := true }, kinds := [], alts := [], laidByText := true, laidKinds := [.data, .data, .data], laidTests := true, laidLooks := .later }
def HeapKeepsUptoCardSaid : Prop := Claim7.holds Tryd.pinned (.plain (OpenSpec.upto heapKeepsSpec)) heapKeepsUptoCard

/-- THE SECOND FORM's CARD OF 'shucklaw15.HeapArrays'. -/
def heapArraysUptoCard : Claim7 := { stood := { row := heapArraysUptoRow, standIns := [], harness := (true, "d6ace1321d21d12e234c85266517eead876858c3432ae28bcb5b28777eeb2643"), looks := true }, kinds := [], alts := [], laidByText := true, laidKinds := [.data, .data, .data], laidTests := true, laidLooks := .later }
def HeapArraysUptoCardSaid : Prop := Claim7.holds Tryd.pinned (.plain (OpenSpec.upto heapArraysSpec)) heapArraysUptoCard

/-- THE SECOND FORM's CARD OF 'shucklaw15.HeapBehind'. -/
def heapBehindUptoCard : Claim7 := { stood := { row := heapBehindUptoRow, standIns := [], harness := (true, "d6ace1321d21d12e234c85266517eead876858c3432ae28bcb5b28777eeb2643"), looks := true }, kinds := [], alts := [], laidByText := true, laidKinds := [.data, .data, .data], laidTests := true, laidLooks := .later }
def HeapBehindUptoCardSaid : Prop := Claim7.holds Tryd.pinned (.plain (OpenSpec.upto heapBehindSpec)) heapBehindUptoCard
end Rows
end Go.Proofs.YtojbkohgngnlaaaDoor

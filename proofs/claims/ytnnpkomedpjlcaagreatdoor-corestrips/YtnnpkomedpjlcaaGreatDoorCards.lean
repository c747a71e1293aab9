/-
  DERIVED. GIVEN WITH THE SEED: THE CARDS: each row of YtnnpkomedpjlcaaGreatDoorRows.lean that lists a variable, with what it lists TIED to the program's text (the seventh form; the later family's looks); each row that meets fmt, with fmt's text TOLD by the authors' own Lean function (tested against real Go, not proved from fmt's source: count such statements apart). THE CARD IS WHAT COUNTS. Prove the row's statement (the work); the ties are given (YtnnpkomedpjlcaaGreatDoorTie.lean); close each card by the builder's one call (the guide's Derived/Test/ToyasCard.lean, 'card_holds'). Laid BY PROGRAM, IN A SANDBOX (cutbox-door.mjs). By AI agents, Wed Nov 11 2026. No macro, syntax, notation, axiom, sorry.
-/
import Derived.Test.YtnnpkomedpjlcaaGreatDoorRows
import GoSem.ClaimSeven
namespace Go.Proofs.YtnnpkomedpjlcaaGreatDoor
namespace Rows

/-- THE TIED CARD OF 'shucklaw5.CoreChecks'. -/
def coreChecksCard : Claim7 := { stood := { row := coreChecksRow, standIns := [], harness := (true, "1fbdecea0f47fc34c3b76c4628636545dbde7e3ff906822612fbaf789c47d8a4"), looks := false }, kinds := [], alts := [], laidByText := true, laidKinds := [.data, .pinned], laidTests := true, laidLooks := .later }
def CoreChecksCardSaid : Prop := Claim7.holds Tryz.pinned (.plain (OpenSpec.ofChange coreChecksSpec)) coreChecksCard

/-- THE TIED CARD OF 'shucklaw5.CoreStrips'. -/
def coreStripsCard : Claim7 := { stood := { row := coreStripsRow, standIns := [], harness := (true, "1fbdecea0f47fc34c3b76c4628636545dbde7e3ff906822612fbaf789c47d8a4"), looks := false }, kinds := [], alts := [], laidByText := true, laidKinds := [.data, .pinned], laidTests := true, laidLooks := .later }
def CoreStripsCardSaid : Prop := Claim7.holds Tryz.pinned (.plain (OpenSpec.ofChange coreStripsSpec)) coreStripsCard

/-- THE TIED CARD OF 'shucklaw5.CoreTwice'. -/
def coreTwiceCard : Claim7 := { stood := { row := coreTwiceRow, standIns := [], harness := (true, "1fbdecea0f47fc34c3b76c4628636545dbde7e3ff906822612fbaf789c47d8a4"), looks := false }, kinds := [], alts := [], laidByText := true, laidKinds := [.data, .pinned], laidTests := true, laidLooks := .later }
def CoreTwiceCardSaid : Prop := Claim7.holds Tryz.pinned (.plain (OpenSpec.ofChange coreTwiceSpec)) coreTwiceCard

/-- THE SECOND FORM's CARD OF 'shucklaw5.CoreChecks'. -/
def coreChecksUptoCard : Claim7 := { stood := { row := coreChecksUptoRow, standIns := [], harness := (true, "1fbdecea0f47fc34c3b76c4628636545dbde7e3ff906822612fbaf789c47d8a4"), looks := false }, kinds := [], alts := [], laidByText := true, laidKinds := [.data, .pinned], laidTests := true, laidLooks := .later }
def CoreChecksUptoCardSaid : Prop := Claim7.holds Tryz.pinned (.plain (OpenSpec.upto coreChecksSpec)) coreChecksUptoCard

/-- THE SECOND FORM's CARD OF 'shucklaw5.CoreStrips'. -/
def coreStripsUptoCard : Claim7 := { stood := { row := coreStripsUptoRow, standIns := [], harness := (true, "1fbdecea0f47fc34c3b76c4628636545dbde7e3ff906822612fbaf789c47d8a4"), looks := false }, kinds := [], alts := [], laidByText := true, laidKinds := [.data, .pinned], laidTests := true, laidLooks := .later }
def CoreStripsUptoCardSaid : Prop := Claim7.holds Tryz.pinned (.plain (OpenSpec.upto coreStripsSpec)) coreStripsUptoCard

/-- THE SECOND FORM's CARD OF 'shucklaw5.CoreTwice'. -/
def coreTwiceUptoCard : Claim7 := { stood := { row := coreTwiceUptoRow, standIns := [], harness := (true, "1fbdecea0f47fc34c3b76c4628636545dbde7e3ff906822612fbaf789c47d8a4"), looks := false }, kinds := [], alts := [], laidByText := true, laidKinds := [.data, .pinned], laidTests := true, laidLooks := .later }
def CoreTwiceUptoCardSaid : Prop := Claim7.holds Tryz.pinned (.plain (OpenSpec.upto coreTwiceSpec)) coreTwiceUptoCard
end Rows
end Go.Proofs.YtnnpkomedpjlcaaGreatDoor

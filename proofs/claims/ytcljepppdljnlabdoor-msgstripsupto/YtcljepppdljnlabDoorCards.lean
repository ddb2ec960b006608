/-
  DERIVED. GIVEN WITH THE SEED: THE CARDS: each row of YtcljepppdljnlabDoorRows.lean that lists a variable, with what it lists TIED to the program's text (the seventh form; the later family's looks); each row that meets fmt, with fmt's text TOLD by the authors' own Lean function (tested against real Go, not proved from fmt's source: count such statements apart). THE CARD IS WHAT COUNTS. Prove the row's statement (the work); the ties are given (YtcljepppdljnlabDoorTie.lean); close each card by the builder's one call (the guide's Derived/Test/ToyasCard.lean, 'card_holds'). Laid BY PROGRAM, IN A SANDBOX (cutbox-door.mjs). By AI agents, Wed Nov 11 2026. No macro, syntax, notation, axiom, sorry.
-/
import Derived.Test.YtcljepppdljnlabDoorRows
import GoSem.ClaimSeven
namespace Go.Proofs.YtcljepppdljnlabDoor
namespace Rows

/-- THE TIED CARD OF 'ostlerlaw14.MsgStrips'. -/
def msgStripsCard : Claim7 := { stood := { row := msgStripsRow, standIns := [], harness := (true, "3ed624cbeffa3db3b9d966e710f4b5d6f2afdfb536d668b4a5880bf3614ec248"), looks := false }, kinds := [], alts := [], laidByText := true, laidKinds := [.data, .data, .data, .data, .pinned], laidTests := true, laidLooks := .later }
def MsgStripsCardSaid : Prop := Claim7.holds Tryd.pinned (.plain (OpenSpec.ofChange msgStripsSpec)) msgStripsCard

/-- THE TIED CARD OF 'ostlerlaw14.MsgParts'. -/
def msgPartsCard : Claim7 := { stood := { row := msgPartsRow, standIns := [], harness := (true, "3ed624cbeffa3db3b9d966e710f4b5d6f2afdfb536d668b4a5880bf3614ec248"), looks := false }, kinds := [], alts := [], laidByText := true, laidKinds := [.data, .data, .data, .data, .pinned], laidTests := true, laidLooks := .later }
def MsgPartsCardSaid : Prop := Claim7.holds Tryd.pinned (.plain (OpenSpec.ofChange msgPartsSpec)) msgPartsCard

/-- THE SECOND FORM's CARD OF 'ostlerlaw14.MsgStrips'. -/
def msgStripsUptoCard : Claim7 := { stood := { row := msgStripsUptoRow, standIns := [], harness := (true, "3ed624cbeffa3db3b9d966e710f4b5d6f2afdfb536d668b4a5880bf3614ec248"), looks := false }, kinds := [], alts := [], laidByText := true, laidKinds := [.data, .data, .data, .data, .pinned], laidTests := true, laidLooks := .later }
def MsgStripsUptoCardSaid : Prop := Claim7.holds Tryd.pinned (.plain (OpenSpec.upto msgStripsSpec)) msgStripsUptoCard

/-- THE SECOND FORM's CARD OF 'ostlerlaw14.MsgParts'. -/
def msgPartsUptoCard : Claim7 := { stood := { row := msgPartsUptoRow, standIns := [], harness := (true, "3ed624cbeffa3db3b9d966e710f4b5d6f2afdfb536d668b4a5880bf3614ec248"), looks := false }, kinds := [], alts := [], laidByText := true, laidKinds := [.data, .data, .data, .data, .pinned], laidTests := true, laidLooks := .later }
def MsgPartsUptoCardSaid : Prop := Claim7.holds Tryd.pinned (.plain (OpenSpec.upto msgPartsSpec)) msgPartsUptoCard
end Rows
end Go.Proofs.YtcljepppdljnlabDoor

/-
  DERIVED. GIVEN WITH THE SEED: THE CARDS: each row of YtkfekopenahmdaaGreatDoorRows.lean that lists a variable, with what it lists TIED to the program's text (the seventh form; the later family's looks); each row that meets fmt, with fmt's text TOLD by the authors' own Lean function (tested against real Go, not proved from fmt's source: count such statements apart). THE CARD IS WHAT COUNTS. Prove the row's statement (the work); the ties are given (YtkfekopenahmdaaGreatDoorTie.lean); close each card by the builder's one call (the guide's Derived/Test/ToyasCard.lean, 'card_holds'). Laid BY PROGRAM, IN A SANDBOX (cutbox-door.mjs). By AI agents, Wed Nov 11 2026. No macro, syntax, notation, axiom, sorry.
-/
import Derived.Test.YtkfekopenahmdaaGreatDoorRows
import GoSem.ClaimSeven
namespace Go.Proofs.YtkfekopenahmdaaGreatDoor
namespace Rows

/-- THE TIED CARD OF 'ostlerlaw14.MsgOnes'. -/
def msgOnesCard : Claim7 := { stood := { row := msgOnesRow, standIns := [], harness := (true, "74babef66100331e33dd4f94c5e5b673d0b96fc0c732317d4ec4c68ea096df92"), looks := false }, kinds := [], alts := [], laidByText := true, laidKinds := [.data, .data, .data, .data, .pinned], laidTests := true, laidLooks := .later }
def MsgOnesCardSaid : Prop := Claim7.holds Tryz.pinned (.plain (OpenSpec.ofChange msgOnesSpec)) msgOnesCard

/-- THE TIED CARD OF 'ostlerlaw14.MsgBodies'. -/
def msgBodiesCard : Claim7 := { stood := { row := msgBodiesRow, standIns := [], harness := (true, "74babef66100331e33dd4f94c5e5b673d0b96fc0c732317d4ec4c68ea096df92"), looks := false }, kinds := [], alts := [], laidByText := true, laidKinds := [.data, .data, .data, .data, .pinned], laidTests := true, laidLooks := .later }
def MsgBodiesCardSaid : Prop := Claim7.holds Tryz.pinned (.plain (OpenSpec.ofChange msgBodiesSpec)) msgBodiesCard

/-- THE SECOND FORM's CARD OF 'ostlerlaw14.MsgOnes'. -/
def msgOnesUptoCard : Claim7 := { stood := { row := msgOnesUptoRow, standIns := [], harness := (true, "74babef66100331e33dd4f94c5e5b673d0b96fc0c732317d4ec4c68ea096df92"), looks := false }, kinds := [], alts := [], laidByText := true, laidKinds := [.data, .data, .data, .data, .pinned], laidTests := true, laidLooks := .later }
def MsgOnesUptoCardSaid : Prop := Claim7.holds Tryz.pinned (.plain (OpenSpec.upto msgOnesSpec)) msgOnesUptoCard

/-- THE SECOND FORM's CARD OF 'ostlerlaw14.MsgBodies'. -/
def msgBodiesUptoCard : Claim7 := { stood := { row := msgBodiesUptoRow, standIns := [], harness := (true, "74babef66100331e33dd4f94c5e5b673d0b96fc0c732317d4ec4c68ea096df92"), looks := false }, kinds := [], alts := [], laidByText := true, laidKinds := [.data, .data, .data, .data, .pinned], laidTests := true, laidLooks := .later }
def MsgBodiesUptoCardSaid : Prop := Claim7.holds Tryz.pinned (.plain (OpenSpec.upto msgBodiesSpec)) msgBodiesUptoCard
end Rows
end Go.Proofs.YtkfekopenahmdaaGreatDoor

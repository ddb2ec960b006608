/-
  DERIVED. GIVEN WITH THE SEED: THE CARDS: each row of YtcljepppdljnlaaGreatDoorRows.lean that lists a variable, with what it lists TIED to the program's text (the seventh form; the later family's looks); each row that meets fmt, with fmt's text TOLD by the authors' own Lean function (tested against real Go, not proved from fmt's source: count such statements apart). THE CARD IS WHAT COUNTS. Prove the row's statement (the work); the ties are given (YtcljepppdljnlaaGreatDoorTie.lean); close each card by the builder's one call (the guide's Derived/Test/ToyasCard.lean, 'card_holds'). Laid BY PROGRAM, IN A SANDBOX (cutbox-door.mjs). By AI agents, Wed Nov 11 2026. No macro, syntax, notation, axiom, sorry.
-/
import Derived.Test.YtcljepppdljnlaaGreatDoorRows
import GoSem.ClaimSeven
namespace Go.Proofs.YtcljepppdljnlaaGreatDoor
namespace Rows

/-- THE TIED CARD OF 'ostlerlaw14.MsgTwos'. -/
def msgTwosCard : Claim7 := { stood := { row := msgTwosRow, standIns := [], harness := (true, "87ddbfa299db2beeb46700ee5047de8df48b474c7d011116bffa522e79e0a097"), looks := false }, kinds := [], alts := [], laidByText := true, laidKinds := [.data, .data, .data, .data, .pinned], laidTests := true, laidLooks := .later }
def MsgTwosCardSaid : Prop := Claim7.holds Tryz.pinned (.plain (OpenSpec.ofChange msgTwosSpec)) msgTwosCard

/-- THE TIED CARD OF 'ostlerlaw14.MsgOnes'. -/
def msgOnesCard : Claim7 := { stood := { row := msgOnesRow, standIns := [], harness := (true, "87ddbfa299db2beeb46700ee5047de8df48b474c7d011116bffa522e79e0a097"), looks := false }, kinds := [], alts := [], laidByText := true, laidKinds := [.data, .data, .data, .data, .pinned], laidTests := true, laidLooks := .later }
def MsgOnesCardSaid : Prop := Claim7.holds Tryz.pinned (.plain (OpenSpec.ofChange msgOnesSpec)) msgOnesCard

/-- THE TIED CARD OF 'ostlerlaw14.MsgFields'. -/
def msgFieldsCard : Claim7 := { stood := { row := msgFieldsRow, standIns := [], harness := (true, "87ddbfa299db2beeb46700ee5047de8df48b474c7d011116bffa522e79e0a097"), looks := false }, kinds := [], alts := [], laidByText := true, laidKinds := [.data, .data, .data, .data, .pinned], laidTests := true, laidLooks := .later }
def MsgFieldsCardSaid : Prop := Claim7.holds Tryz.pinned (.plain (OpenSpec.ofChange msgFieldsSpec)) msgFieldsCard

/-- THE TIED CARD OF 'ostlerlaw14.MsgBodies'. -/
def msgBodiesCard : Claim7 := { stood := { row := msgBodiesRow, standIns := [], harness := (true, "87ddbfa299db2beeb46700ee5047de8df48b474c7d011116bffa522e79e0a097"), looks := false }, kinds := [], alts := [], laidByText := true, laidKinds := [.data, .data, .data, .data, .pinned], laidTests := true, laidLooks := .later }
def MsgBodiesCardSaid : Prop := Claim7.holds Tryz.pinned (.plain (OpenSpec.ofChange msgBodiesSpec)) msgBodiesCard

/-- THE SECOND FORM's CARD OF 'ostlerlaw14.MsgTwos'. -/
def msgTwosUptoCard : Claim7 := { stood := { row := msgTwosUptoRow, standIns := [], harness := (true, "87ddbfa299db2beeb46700ee5047de8df48b474c7d011116bffa522e79e0a097"), looks := false }, kinds := [], alts := [], laidByText := true, laidKinds := [.data, .data, .data, .data, .pinned], laidTests := true, laidLooks := .later }
def MsgTwosUptoCardSaid : Prop := Claim7.holds Tryz.pinned (.plain (OpenSpec.upto msgTwosSpec)) msgTwosUptoCard

/-- THE SECOND FORM's CARD OF 'ostlerlaw14.MsgOnes'. -/
def msgOnesUptoCard : Claim7 := { stood := { row := msgOnesUptoRow, standIns := [], harness := (true, "87ddbfa299db2beeb46700ee5047de8df48b474c7d011116bffa522e79e0a097"), looks := false }, kinds := [], alts := [], laidByText := true, laidKinds := [.data, .data, .data, .data, .pinned], laidTests := true, laidLooks := .later }
def MsgOnesUptoCardSaid : Prop := Claim7.holds Tryz.pinned (.plain (OpenSpec.upto msgOnesSpec)) msgOnesUptoCard

/-- THE SECOND FORM's CARD OF 'ostlerlaw14.MsgFields'. -/
def msgFieldsUptoCard : Claim7 := { stood := { row := msgFieldsUptoRow, standIns := [], harness := (true, "87ddbfa299db2beeb46700ee5047de8df48b474c7d011116bffa522e79e0a097"), looks := false }, kinds := [], alts := [], laidByText := true, laidKinds := [.data, .data, .data, .data, .pinned], laidTests := true, laidLooks := .later }
def MsgFieldsUptoCardSaid : Prop := Claim7.holds Tryz.pinned (.plain (OpenSpec.upto msgFieldsSpec)) msgFieldsUptoCard

/-- THE SECOND FORM's CARD OF 'ostlerlaw14.MsgBodies'. -/
def msgBodiesUptoCard : Claim7 := { stood := { row := msgBodiesUptoRow, standIns := [], harness := (true, "87ddbfa299db2beeb46700ee5047de8df48b474c7d011116bffa522e79e0a097"), looks := false }, kinds := [], alts := [], laidByText := true, laidKinds := [.data, .data, .data, .data, .pinned], laidTests := true, laidLooks := .later }
def MsgBodiesUptoCardSaid : Prop := Claim7.holds Tryz.pinned (.plain (OpenSpec.upto msgBodiesSpec)) msgBodiesUptoCard
end Rows
end Go.Proofs.YtcljepppdljnlaaGreatDoor

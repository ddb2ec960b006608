/-
  DERIVED. GIVEN WITH THE SEED: THE CARDS: each row of YtcljepppdljnlaaDoorRows.lean that lists a variable, with what it lists TIED to the program's text (the seventh form; the later family's looks); each row that meets fmt, with fmt's text TOLD by the authors' own Lean function (tested against real Go, not proved from fmt's source: count such statements apart). THE CARD IS WHAT COUNTS. Prove the row's statement (the work); the ties are given (YtcljepppdljnlaaDoorTie.lean); close each card by the builder's one call (the guide's Derived/Test/ToyasCard.lean, 'card_holds'). Laid BY PROGRAM, IN A SANDBOX (cutbox-door.mjs). By AI agents, Wed Nov 11 2026. No macro, syntax, notation, axiom, sorry.
-/
import Derived.Test.YtcljepppdljnlaaDoorRows
import GoSem.ClaimSeven
namespace Go.Proofs.YtcljepppdljnlaaDoor
namespace Rows

/-- THE TIED CARD OF 'ostlerlaw14.MsgClean'. -/
def msgCleanCard : Claim7 := { stood := { row := msgCleanRow, standIns := [], harness := (true, "ab114574a4858ea2d1899b982275eb9899699043e9296b7ea4c97105e576a789"), looks := false }, kinds := [], alts := [], laidByText := true, laidKinds := [.data, .data, .data, .data, .pinned], laidTests := true, laidLooks := .later }
def MsgCleanCardSaid : Prop := Claim7.holds Tryd.pinned (.plain (OpenSpec.ofChange msgCleanSpec)) msgCleanCard

/-- THE TIED CARD OF 'ostlerlaw14.MsgMeets'. -/
def msgMeetsCard : Claim7 := { stood := { row := msgMeetsRow, standIns := [], harness := (true, "ab114574a4858ea2d1899b982275eb9899699043e9296b7ea4c97105e576a789"), looks := false }, kinds := [], alts := [], laidByText := true, laidKinds := [.data, .data, .data, .data, .pinned], laidTests := true, laidLooks := .later }
def MsgMeetsCardSaid : Prop := Claim7.holds Tryd.pinned (.plain (OpenSpec.ofChange msgMeetsSpec)) msgMeetsCard

/-- THE SECOND FORM's CARD OF 'ostlerlaw14.MsgClean'. -/
def msgCleanUptoCard : Claim7 := { stood := { row := msgCleanUptoRow, standIns := [], harness := (true, "ab114574a4858ea2d1899b982275eb9899699043e9296b7ea4c97105e576a789"), looks := false }, kinds := [], alts := [], laidByText := true, laidKinds := [.data, .data, .data, .data, .pinned], laidTests := true, laidLooks := .later }
def MsgCleanUptoCardSaid : Prop := Claim7.holds Tryd.pinned (.plain (OpenSpec.upto msgCleanSpec)) msgCleanUptoCard

/-- THE SECOND FORM's CARD OF 'ostlerlaw14.MsgMeets'. -/
def msgMeetsUptoCard : Claim7 := { stood := { row := msgMeetsUptoRow, standIns := [], harness := (true, "ab114574a4858ea2d1899b982275eb9899699043e9296b7ea4c97105e576a789"), looks := false }, kinds := [], alts := [], laidByText := true, laidKinds := [.data, .data, .data, .data, .pinned], laidTests := true, laidLooks := .later }
def MsgMeetsUptoCardSaid : Prop := Claim7.holds Tryd.pinned (.plain (OpenSpec.upto msgMeetsSpec)) msgMeetsUptoCard
end Rows
end Go.Proofs.YtcljepppdljnlaaDoor

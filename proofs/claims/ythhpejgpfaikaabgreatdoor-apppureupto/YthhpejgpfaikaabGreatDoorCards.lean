/-
  DERIVED. GIVEN WITH THE SEED: THE CARDS: each row of YthhpejgpfaikaabGreatDoorRows.lean that lists a variable, with what it lists TIED to the program's text (the seventh form; the later family's looks); each row that meets fmt, with fmt's text TOLD by the authors' own Lean function (tested against real Go, not proved from fmt's source: count such statements apart). THE CARD IS WHAT COUNTS. Prove the row's statement (the work); the ties are given (YthhpejgpfaikaabGreatDoorTie.lean); close each card by the builder's one call (the guide's Derived/Test/ToyasCard.lean, 'card_holds'). Laid BY PROGRAM, IN A SANDBOX (cutbox-door.mjs). By AI agents, Wed Nov 11 2026. No macro, syntax, notation, axiom, sorry.
-/
import Derived.Test.YthhpejgpfaikaabGreatDoorRows
import GoSem.ClaimSeven
namespace Go.Proofs.YthhpejgpfaikaabGreatDoor
namespace Rows

/-- THE TIED CARD OF 'ostlerlaw20.AppSays'. -/
def appSaysCard : Claim7 := { stood := { row := appSaysRow, standIns := [], harness := (true, "3512ea52cf21438fccc2a6184b7479d1c459b38f72f42b43d86c490383957b5c"), looks := true }, kinds := [], alts := [], laidByText := true, laidKinds := [.data, .data, .data, .data, .pinned], laidTests := true, laidLooks := .later }
def AppSaysCardSaid : Prop := Claim7.holds Tryz.pinned (.plain (OpenSpec.ofChange appSaysSpec)) appSaysCard

/-- THE TIED CARD OF 'ostlerlaw20.AppPure'. -/
def appPureCard : Claim7 := { stood := { row := appPureRow, standIns := [], harness := (true, "3512ea52cf21438fccc2a6184b7479d1c459b38f72f42b43d86c490383957b5c"), looks := true }, kinds := [], alts := [], laidByText := true, laidKinds := [.data, .data, .data, .data, .pinned], laidTests := true, laidLooks := .later }
def AppPureCardSaid : Prop := Claim7.holds Tryz.pinned (.plain (OpenSpec.ofChange appPureSpec)) appPureCard

/-- THE SECOND FORM's CARD OF 'ostlerlaw20.AppSays'. -/
def appSaysUptoCard : Claim7 := { stood := { row := appSaysUptoRow, standIns := [], harness := (true, "3512ea52cf21438fccc2a6184b7479d1c459b38f72f42b43d86c490383957b5c"), looks := true }, kinds := [], alts := [], laidByText := true, laidKinds := [.data, .data, .data, .data, .pinned], laidTests := true, laidLooks := .later }
def AppSaysUptoCardSaid : Prop := Claim7.holds Tryz.pinned (.plain (OpenSpec.upto appSaysSpec)) appSaysUptoCard

/-- THE SECOND FORM's CARD OF 'ostlerlaw20.AppPure'. -/
def appPureUptoCard : Claim7 := { stood := { row := appPureUptoRow, standIns := [], harness := (true, "3512ea52cf21438fccc2a6184b7479d1c459b38f72f42b43d86c490383957b5c"), looks := true }, kinds := [], alts := [], laidByText := true, laidKinds := [.data, .data, .data, .data, .pinned], laidTests := true, laidLooks := .later }
def AppPureUptoCardSaid : Prop := Claim7.holds Tryz.pinned (.plain (OpenSpec.upto appPureSpec)) appPureUptoCard
end Rows
end Go.Proofs.YthhpejgpfaikaabGreatDoor

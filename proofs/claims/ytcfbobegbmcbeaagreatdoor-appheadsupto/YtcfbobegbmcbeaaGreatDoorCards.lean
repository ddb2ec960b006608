/-
  DERIVED. GIVEN WITH THE SEED: THE CARDS: each row of YtcfbobegbmcbeaaGreatDoorRows.lean that lists a variable, with what it lists TIED to the program's text (the seventh form; the later family's looks); each row that meets fmt, with fmt's text TOLD by the authors' own Lean function (tested against real Go, not proved from fmt's source: count such statements apart). THE CARD IS WHAT COUNTS. Prove the row's statement (the work); the ties are given (YtcfbobegbmcbeaaGreatDoorTie.lean); close each card by the builder's one call (the guide's Derived/Test/ToyasCard.lean, 'card_holds'). Laid BY PROGRAM, IN A SANDBOX (cutbox-door.mjs). By AI agents, Wed Nov 11 2026. No macro, syntax, notation, axiom, sorry.
-/
import Derived.Test.YtcfbobegbmcbeaaGreatDoorRows
import GoSem.ClaimSeven
namespace Go.Proofs.YtcfbobegbmcbeaaGreatDoor
namespace Rows

/-- THE TIED CARD OF 'ostlerlaw20.AppHeads'. -/
def appHeadsCard : Claim7 := { stood := { row := appHeadsRow, standIns := [], harness := (true, "d34fb94bf14db335e3996a995ceac07e83df79b8f5d3fe66507777c4bfa5b9f6"), looks := true }, kinds := [], alts := [], laidByText := true, laidKinds := [.data, .data, .data, .data, .pinned], laidTests := true, laidLooks := .later }
def AppHeadsCardSaid : Prop := Claim7.holds Tryz.pinned (.plain (OpenSpec.ofChange appHeadsSpec)) appHeadsCard

/-- THE TIED CARD OF 'ostlerlaw20.AppSays'. -/
def appSaysCard : Claim7 := { stood := { row := appSaysRow, standIns := [], harness := (true, "d34fb94bf14db335e3996a995ceac07e83df79b8f5d3fe66507777c4bfa5b9f6"), looks := true }, kinds := [], alts := [], laidByText := true, laidKinds := [.data, .data, .data, .data, .pinned], laidTests := true, laidLooks := .later }
def AppSaysCardSaid : Prop := Claim7.holds Tryz.pinned (.plain (OpenSpec.ofChange appSaysSpec)) appSaysCard

/-- THE TIED CARD OF 'ostlerlaw20.AppNil'. -/
def appNilCard : Claim7 := { stood := { row := appNilRow, standIns := [], harness := (true, "d34fb94bf14db335e3996a995ceac07e83df79b8f5d3fe66507777c4bfa5b9f6"), looks := true }, kinds := [], alts := [], laidByText := true, laidKinds := [.data, .data, .data, .data, .pinned], laidTests := true, laidLooks := .later }
def AppNilCardSaid : Prop := Claim7.holds Tryz.pinned (.plain (OpenSpec.ofChange appNilSpec)) appNilCard

/-- THE TIED CARD OF 'ostlerlaw20.AppPure'. -/
def appPureCard : Claim7 := { stood := { row := appPureRow, standIns := [], harness := (true, "d34fb94bf14db335e3996a995ceac07e83df79b8f5d3fe66507777c4bfa5b9f6"), looks := true }, kinds := [], alts := [], laidByText := true, laidKinds := [.data, .data, .data, .data, .pinned], laidTests := true, laidLooks := .later }
def AppPureCardSaid : Prop := Claim7.holds Tryz.pinned (.plain (OpenSpec.ofChange appPureSpec)) appPureCard

/-- THE SECOND FORM's CARD OF 'ostlerlaw20.AppHeads'. -/
def appHeadsUptoCard : Claim7 := { stood := { row := appHeadsUptoRow, standIns := [], harness := (true, "d34fb94bf14db335e3996a995ceac07e83df79b8f5d3fe66507777c4bfa5b9f6"), looks := true }, kinds := [], alts := [], laidByText := true, laidKinds := [.data, .data, .data, .data, .pinned], laidTests := true, laidLooks := .later }
def AppHeadsUptoCardSaid : Prop := Claim7.holds Tryz.pinned (.plain (OpenSpec.upto appHeadsSpec)) appHeadsUptoCard

/-- THE SECOND FORM's CARD OF 'ostlerlaw20.AppSays'. -/
def appSaysUptoCard : Claim7 := { stood := { row := appSaysUptoRow, standIns := [], harness := (true, "d34fb94bf14db335e3996a995ceac07e83df79b8f5d3fe66507777c4bfa5b9f6"), looks := true }, kinds := [], alts := [], laidByText := true, laidKinds := [.data, .data, .data, .data, .pinned], laidTests := true, laidLooks := .later }
def AppSaysUptoCardSaid : Prop := Claim7.holds Tryz.pinned (.plain (OpenSpec.upto appSaysSpec)) appSaysUptoCard

/-- THE SECOND FORM's CARD OF 'ostlerlaw20.AppNil'. -/
def appNilUptoCard : Claim7 := { stood := { row := appNilUptoRow, standIns := [], harness := (true, "d34fb94bf14db335e3996a995ceac07e83df79b8f5d3fe66507777c4bfa5b9f6"), looks := true }, kinds := [], alts := [], laidByText := true, laidKinds := [.data, .data, .data, .data, .pinned], laidTests := true, laidLooks := .later }
def AppNilUptoCardSaid : Prop := Claim7.holds Tryz.pinned (.plain (OpenSpec.upto appNilSpec)) appNilUptoCard

/-- THE SECOND FORM's CARD OF 'ostlerlaw20.AppPure'. -/
def appPureUptoCard : Claim7 := { stood := { row := appPureUptoRow, standIns := [], harness := (true, "d34fb94bf14db335e3996a995ceac07e83df79b8f5d3fe66507777c4bfa5b9f6"), looks := true }, kinds := [], alts := [], laidByText := true, laidKinds := [.data, .data, .data, .data, .pinned], laidTests := true, laidLooks := .later }
def AppPureUptoCardSaid : Prop := Claim7.holds Tryz.pinned (.plain (OpenSpec.upto appPureSpec)) appPureUptoCard
end Rows
end Go.Proofs.YtcfbobegbmcbeaaGreatDoor

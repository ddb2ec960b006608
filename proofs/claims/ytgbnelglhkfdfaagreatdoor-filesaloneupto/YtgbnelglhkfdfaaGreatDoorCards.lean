/-
  DERIVED. GIVEN WITH THE SEED: THE CARDS: each row of YtgbnelglhkfdfaaGreatDoorRows.lean that lists a variable, with what it lists TIED to the program's text (the seventh form; the later family's looks); each row that meets fmt, with fmt's text TOLD by the authors' own Lean function (tested against real Go, not proved from fmt's source: count such statements apart). THE CARD IS WHAT COUNTS. Prove the row's statement (the work); the ties are given (YtgbnelglhkfdfaaGreatDoorTie.lean); close each card by the builder's one call (the guide's Derived/Test/ToyasCard.lean, 'card_holds'). Laid BY PROGRAM, IN A SANDBOX (cutbox-door.mjs). By AI agents, Wed Nov 11 2026. No macro, syntax, notation, axiom, sorry.
-/
import Derived.Test.YtgbnelglhkfdfaaGreatDoorRows
import GoSem.ClaimSeven
namespace Go.Proofs.YtgbnelglhkfdfaaGreatDoor
namespace Rows

/-- THE TIED CARD OF 'ostlerlaw19.FilesPlain'. -/
def filesPlainCard : Claim7 := { stood := { row := filesPlainRow, standIns := [], harness := (true, "e2dbb9b631374406920d15943895daabe9d1943b0b507566ef1330aa733b8ec8"), looks := true }, kinds := [], alts := [], laidByText := true, laidKinds := [.data, .data, .data, .data, .pinned], laidTests := true, laidLooks := .later }
def FilesPlainCardSaid : Prop := Claim7.holds Tryz.pinned (.plain (OpenSpec.ofChange filesPlainSpec)) filesPlainCard

/-- THE TIED CARD OF 'ostlerlaw19.FilesCut'. -/
def filesCutCard : Claim7 := { stood := { row := filesCutRow, standIns := [], harness := (true, "e2dbb9b631374406920d15943895daabe9d1943b0b507566ef1330aa733b8ec8"), looks := true }, kinds := [], alts := [], laidByText := true, laidKinds := [.data, .data, .data, .data, .pinned], laidTests := true, laidLooks := .later }
def FilesCutCardSaid : Prop := Claim7.holds Tryz.pinned (.plain (OpenSpec.ofChange filesCutSpec)) filesCutCard

/-- THE TIED CARD OF 'ostlerlaw19.FilesAlone'. -/
def filesAloneCard : Claim7 := { stood := { row := filesAloneRow, standIns := [], harness := (true, "e2dbb9b631374406920d15943895daabe9d1943b0b507566ef1330aa733b8ec8"), looks := true }, kinds := [], alts := [], laidByText := true, laidKinds := [.data, .data, .data, .data, .pinned], laidTests := true, laidLooks := .later }
def FilesAloneCardSaid : Prop := Claim7.holds Tryz.pinned (.plain (OpenSpec.ofChange filesAloneSpec)) filesAloneCard

/-- THE TIED CARD OF 'ostlerlaw19.FilesFresh'. -/
def filesFreshCard : Claim7 := { stood := { row := filesFreshRow, standIns := [], harness := (true, "e2dbb9b631374406920d15943895daabe9d1943b0b507566ef1330aa733b8ec8"), looks := true }, kinds := [], alts := [], laidByText := true, laidKinds := [.data, .data, .data, .data, .pinned], laidTests := true, laidLooks := .later }
def FilesFreshCardSaid : Prop := Claim7.holds Tryz.pinned (.plain (OpenSpec.ofChange filesFreshSpec)) filesFreshCard

/-- THE SECOND FORM's CARD OF 'ostlerlaw19.FilesPlain'. -/
def filesPlainUptoCard : Claim7 := { stood := { row := filesPlainUptoRow, standIns := [], harness := (true, "e2dbb9b631374406920d15943895daabe9d1943b0b507566ef1330aa733b8ec8"), looks := true }, kinds := [], alts := [], laidByText := true, laidKinds := [.data, .data, .data, .data, .pinned], laidTests := true, laidLooks := .later }
def FilesPlainUptoCardSaid : Prop := Claim7.holds Tryz.pinned (.plain (OpenSpec.upto filesPlainSpec)) filesPlainUptoCard

/-- THE SECOND FORM's CARD OF 'ostlerlaw19.FilesCut'. -/
def filesCutUptoCard : Claim7 := { stood := { row := filesCutUptoRow, standIns := [], harness := (true, "e2dbb9b631374406920d15943895daabe9d1943b0b507566ef1330aa733b8ec8"), looks := true }, kinds := [], alts := [], laidByText := true, laidKinds := [.data, .data, .data, .data, .pinned], laidTests := true, laidLooks := .later }
def FilesCutUptoCardSaid : Prop := Claim7.holds Tryz.pinned (.plain (OpenSpec.upto filesCutSpec)) filesCutUptoCard

/-- THE SECOND FORM's CARD OF 'ostlerlaw19.FilesAlone'. -/
def filesAloneUptoCard : Claim7 := { stood := { row := filesAloneUptoRow, standIns := [], harness := (true, "e2dbb9b631374406920d15943895daabe9d1943b0b507566ef1330aa733b8ec8"), looks := true }, kinds := [], alts := [], laidByText := true, laidKinds := [.data, .data, .data, .data, .pinned], laidTests := true, laidLooks := .later }
def FilesAloneUptoCardSaid : Prop := Claim7.holds Tryz.pinned (.plain (OpenSpec.upto filesAloneSpec)) filesAloneUptoCard

/-- THE SECOND FORM's CARD OF 'ostlerlaw19.FilesFresh'. -/
def filesFreshUptoCard : Claim7 := { stood := { row := filesFreshUptoRow, standIns := [], harness := (true, "e2dbb9b631374406920d15943895daabe9d1943b0b507566ef1330aa733b8ec8"), looks := true }, kinds := [], alts := [], laidByText := true, laidKinds := [.data, .data, .data, .data, .pinned], laidTests := true, laidLooks := .later }
def FilesFreshUptoCardSaid : Prop := Claim7.holds Tryz.pinned (.plain (OpenSpec.upto filesFreshSpec)) filesFreshUptoCard
end Rows
end Go.Proofs.YtgbnelglhkfdfaaGreatDoor

/-
  DERIVED. GIVEN WITH THE SEED: THE CARDS: each row of YtbpdhcfmdkmoiaaDoorRows.lean that lists a variable, with what it lists TIED to the program's text (the seventh form; the later family's looks); each row that meets fmt, with fmt's text TOLD by the authors' own Lean function (tested against real Go, not proved from fmt's source: count such statements apart). THE CARD IS WHAT COUNTS. Prove the row's statement (the work); the ties are given (YtbpdhcfmdkmoiaaDoorTie.lean); close each card by the builder's one call (the guide's Derived/Test/ToyasCard.lean, 'card_holds'). Laid BY PROGRAM, IN A SANDBOX (cutbox-door.mjs). By AI agents, Wed Nov 11 2026. No macro, syntax, notation, axiom, sorry.
-/
import Derived.Test.YtbpdhcfmdkmoiaaDoorRows
import GoSem.ClaimSeven
namespace Go.Proofs.YtbpdhcfmdkmoiaaDoor
namespace Rows

/-- THE TIED CARD OF 'ostlerlaw22.H1writePieces'. -/
def h1writePiecesCard : Claim7 := { stood := { row := h1writePiecesRow, standIns := [], harness := (true, "6fab483a6735b7bcefc6801b8f73da468102acd80b2826341d0d30863cb54b0f"), looks := false }, kinds := [], alts := [], laidByText := true, laidKinds := [.data, .data, .data], laidTests := true, laidLooks := .later }
def H1writePiecesCardSaid : Prop := Claim7.holds Tryd.pinned (.plain (OpenSpec.ofChange h1writePiecesSpec)) h1writePiecesCard

/-- THE TIED CARD OF 'ostlerlaw22.H1writeReasons'. -/
def h1writeReasonsCard : Claim7 := { stood := { row := h1writeReasonsRow, standIns := [], harness := (true, "6fab483a6735b7bcefc6801b8f73da468102acd80b2826341d0d30863cb54b0f"), looks := false }, kinds := [], alts := [], laidByText := true, laidKinds := [.data, .data, .data], laidTests := true, laidLooks := .later }
def H1writeReasonsCardSaid : Prop := Claim7.holds Tryd.pinned (.plain (OpenSpec.ofChange h1writeReasonsSpec)) h1writeReasonsCard

/-- THE TIED CARD OF 'ostlerlaw22.H1writeBack'. -/
def h1writeBackCard : Claim7 := { stood := { row := h1writeBackRow, standIns := [], harness := (true, "6fab483a6735b7bcefc6801b8f73da468102acd80b2826341d0d30863cb54b0f"), looks := false }, kinds := [], alts := [], laidByText := true, laidKinds := [.data, .data, .data], laidTests := true, laidLooks := .later }
def H1writeBackCardSaid : Prop := Claim7.holds Tryd.pinned (.plain (OpenSpec.ofChange h1writeBackSpec)) h1writeBackCard

/-- THE SECOND FORM's CARD OF 'ostlerlaw22.H1writePieces'. -/
def h1writePiecesUptoCard : Claim7 := { stood := { row := h1writePiecesUptoRow, standIns := [], harness := (true, "6fab483a6735b7bcefc6801b8f73da468102acd80b2826341d0d30863cb54b0f"), looks := false }, kinds := [], alts := [], laidByText := true, laidKinds := [.data, .data, .data], laidTests := true, laidLooks := .later }
def H1writePiecesUptoCardSaid : Prop := Claim7.holds Tryd.pinned (.plain (OpenSpec.upto h1writePiecesSpec)) h1writePiecesUptoCard

/-- THE SECOND FORM's CARD OF 'ostlerlaw22.H1writeReasons'. -/
def h1writeReasonsUptoCard : Claim7 := { stood := { row := h1writeReasonsUptoRow, standIns := [], harness := (true, "6fab483a6735b7bcefc6801b8f73da468102acd80b2826341d0d30863cb54b0f"), looks := false }, kinds := [], alts := [], laidByText := true, laidKinds := [.data, .data, .data], laidTests := true, laidLooks := .later }
def H1writeReasonsUptoCardSaid : Prop := Claim7.holds Tryd.pinned (.plain (OpenSpec.upto h1writeReasonsSpec)) h1writeReasonsUptoCard

/-- THE SECOND FORM's CARD OF 'ostlerlaw22.H1writeBack'. -/
def h1writeBackUptoCard : Claim7 := { stood := { row := h1writeBackUptoRow, standIns := [], harness := (true, "6fab483a6735b7bcefc6801b8f73da468102acd80b2826341d0d30863cb54b0f"), looks := false }, kinds := [], alts := [], laidByText := true, laidKinds := [.data, .data, .data], laidTests := true, laidLooks := .later }
def H1writeBackUptoCardSaid : Prop := Claim7.holds Tryd.pinned (.plain (OpenSpec.upto h1writeBackSpec)) h1writeBackUptoCard
end Rows
end Go.Proofs.YtbpdhcfmdkmoiaaDoor

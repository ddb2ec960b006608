/-
  DERIVED. GIVEN WITH THE SEED: THE CARDS: each row of YtbpdhcfmdkmoiabDoorRows.lean that lists a variable, with what it lists TIED to the program's text (the seventh form; the later family's looks); each row that meets fmt, with fmt's text TOLD by the authors' own Lean function (tested against real Go, not proved from fmt's source: count such statements apart). THE CARD IS WHAT COUNTS. Prove the row's statement (the work); the ties are given (YtbpdhcfmdkmoiabDoorTie.lean); close each card by the builder's one call (the guide's Derived/Test/ToyasCard.lean, 'card_holds'). Laid BY PROGRAM, IN A SANDBOX (cutbox-door.mjs). By AI agents, Wed Nov 11 2026. No macro, syntax, notation, axiom, sorry.
-/
import Derived.Test.YtbpdhcfmdkmoiabDoorRows
import GoSem.ClaimSeven
namespace Go.Proofs.YtbpdhcfmdkmoiabDoor
namespace Rows

/-- THE TIED CARD OF 'ostlerlaw22.H1writeLines'. -/
def h1writeLinesCard : Claim7 := { stood := { row := h1writeLinesRow, standIns := [], harness := (true, "914e57eb7e6f026ebbd876e95da937ae5d146ae508b46772d4589f0be688a05d"), looks := false }, kinds := [], alts := [], laidByText := true, laidKinds := [.data, .data, .data], laidTests := true, laidLooks := .later }
def H1writeLinesCardSaid : Prop := Claim7.holds Tryd.pinned (.plain (OpenSpec.ofChange h1writeLinesSpec)) h1writeLinesCard

/-- THE SECOND FORM's CARD OF 'ostlerlaw22.H1writeLines'. -/
def h1writeLinesUptoCard : Claim7 := { stood := { row := h1writeLinesUptoRow, standIns := [], harness := (true, "914e57eb7e6f026ebbd876e95da937ae5d146ae508b46772d4589f0be688a05d"), looks := false }, kinds := [], alts := [], laidByText := true, laidKinds := [.data, .data, .data], laidTests := true, laidLooks := .later }
def H1writeLinesUptoCardSaid : Prop := Claim7.holds Tryd.pinned (.plain (OpenSpec.upto h1writeLinesSpec)) h1writeLinesUptoCard
end Rows
end Go.Proofs.YtbpdhcfmdkmoiabDoor

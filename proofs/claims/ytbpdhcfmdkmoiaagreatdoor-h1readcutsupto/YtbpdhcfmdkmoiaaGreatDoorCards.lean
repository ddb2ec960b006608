/-
  DERIVED. GIVEN WITH THE SEED: THE CARDS: each row of YtbpdhcfmdkmoiaaGreatDoorRows.lean that lists a variable, with what it lists TIED to the program's text (the seventh form; the later family's looks); each row that meets fmt, with fmt's text TOLD by the authors' own Lean function (tested against real Go, not proved from fmt's source: count such statements apart). THE CARD IS WHAT COUNTS. Prove the row's statement (the work); the ties are given (YtbpdhcfmdkmoiaaGreatDoorTie.lean); close each card by the builder's one call (the guide's Derived/Test/ToyasCard.lean, 'card_holds'). Laid BY PROGRAM, IN A SANDBOX (cutbox-door.mjs). By AI agents, Wed Nov 11 2026. No macro, syntax, notation, axiom, sorry.
-/
import Derived.Test.YtbpdhcfmdkmoiaaGreatDoorRows
import GoSem.ClaimSeven
namespace Go.Proofs.YtbpdhcfmdkmoiaaGreatDoor
namespace Rows

/-- THE TIED CARD OF 'ostlerlaw21.H1readCuts'. -/
def h1readCutsCard : Claim7 := { stood := { row := h1readCutsRow, standIns := [], harness := (true, "43aea356bfbde88dfdb99059b473a214264934a90035204dae1c585ee2e71d07"), looks := false }, kinds := [], alts := [], laidByText := true, laidKinds := [.data, .data, .data, .data, .pinned], laidTests := true, laidLooks := .later }
def H1readCutsCardSaid : Prop := Claim7.holds Tryz.pinned (.plain (OpenSpec.ofChange h1readCutsSpec)) h1readCutsCard

/-- THE TIED CARD OF 'ostlerlaw21.H1readMessages'. -/
def h1readMessagesCard : Claim7 := { stood := { row := h1readMessagesRow, standIns := [], harness := (true, "43aea356bfbde88dfdb99059b473a214264934a90035204dae1c585ee2e71d07"), looks := false }, kinds := [], alts := [], laidByText := true, laidKinds := [.data, .data, .data, .data, .pinned], laidTests := true, laidLooks := .later }
def H1readMessagesCardSaid : Prop := Claim7.holds Tryz.pinned (.plain (OpenSpec.ofChange h1readMessagesSpec)) h1readMessagesCard

/-- THE TIED CARD OF 'ostlerlaw21.H1readRefuses'. -/
def h1readRefusesCard : Claim7 := { stood := { row := h1readRefusesRow, standIns := [], harness := (true, "43aea356bfbde88dfdb99059b473a214264934a90035204dae1c585ee2e71d07"), looks := false }, kinds := [], alts := [], laidByText := true, laidKinds := [.data, .data, .data, .data, .pinned], laidTests := true, laidLooks := .later }
def H1readRefusesCardSaid : Prop := Claim7.holds Tryz.pinned (.plain (OpenSpec.ofChange h1readRefusesSpec)) h1readRefusesCard

/-- THE SECOND FORM's CARD OF 'ostlerlaw21.H1readCuts'. -/
def h1readCutsUptoCard : Claim7 := { stood := { row := h1readCutsUptoRow, standIns := [], harness := (true, "43aea356bfbde88dfdb99059b473a214264934a90035204dae1c585ee2e71d07"), looks := false }, kinds := [], alts := [], laidByText := true, laidKinds := [.data, .data, .data, .data, .pinned], laidTests := true, laidLooks := .later }
def H1readCutsUptoCardSaid : Prop := Claim7.holds Tryz.pinned (.plain (OpenSpec.upto h1readCutsSpec)) h1readCutsUptoCard

/-- THE SECOND FORM's CARD OF 'ostlerlaw21.H1readMessages'. -/
def h1readMessagesUptoCard : Claim7 := { stood := { row := h1readMessagesUptoRow, standIns := [], harness := (true, "43aea356bfbde88dfdb99059b473a214264934a90035204dae1c585ee2e71d07"), looks := false }, kinds := [], alts := [], laidByText := true, laidKinds := [.data, .data, .data, .data, .pinned], laidTests := true, laidLooks := .later }
def H1readMessagesUptoCardSaid : Prop := Claim7.holds Tryz.pinned (.plain (OpenSpec.upto h1readMessagesSpec)) h1readMessagesUptoCard

/-- THE SECOND FORM's CARD OF 'ostlerlaw21.H1readRefuses'. -/
def h1readRefusesUptoCard : Claim7 := { stood := { row := h1readRefusesUptoRow, standIns := [], harness := (true, "43aea356bfbde88dfdb99059b473a214264934a90035204dae1c585ee2e71d07"), looks := false }, kinds := [], alts := [], laidByText := true, laidKinds := [.data, .data, .data, .data, .pinned], laidTests := true, laidLooks := .later }
def H1readRefusesUptoCardSaid : Prop := Claim7.holds Tryz.pinned (.plain (OpenSpec.upto h1readRefusesSpec)) h1readRefusesUptoCard
end Rows
end Go.Proofs.YtbpdhcfmdkmoiaaGreatDoor

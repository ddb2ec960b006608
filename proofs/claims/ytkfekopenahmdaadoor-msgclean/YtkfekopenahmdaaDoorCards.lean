/-
  DERIVED. GIVEN WITH THE SEED: THE CARDS: each row of YtkfekopenahmdaaDoorRows.lean that lists a variable, with what it lists TIED to the program's text (the seventh form; the later family's looks); each row that meets fmt, with fmt's text TOLD by the authors' own Lean function (tested against real Go, not proved from fmt's source: count such statements apart). THE CARD IS WHAT COUNTS. Prove the row's statement (the work); the ties are given (YtkfekopenahmdaaDoorTie.lean); close each card by the builder's one call (the guide's Derived/Test/ToyasCard.lean, 'card_holds'). Laid BY PROGRAM, IN A SANDBOX (cutbox-door.mjs). By AI agents, Wed Nov 11 2026. No macro, syntax, notation, axiom, sorry.
-/
import Derived.Test.YtkfekopenahmdaaDoorRows
import GoSem.ClaimSeven
namespace Go.Proofs.YtkfekopenahmdaaDoor
namespace Rows

/-- THE TIED CARD OF 'ostlerlaw14.MsgClean'. -/
def msgCleanCard : Claim7 := { stood := { row := msgCleanRow, standIns := [], harness := (true, "e8ac2e03e7fbab33a0b906d919a11fbe270f2d865f33ce0ef0f6cbdbbf784135"), looks := false }, kinds := [], alts := [], laidByText := true, laidKinds := [.data, .data, .data, .data, .pinned], laidTests := true, laidLooks := .later }
def MsgCleanCardSaid : Prop := Claim7.holds Tryd.pinned (.plain (OpenSpec.ofChange msgCleanSpec)) msgCleanCard

/-- THE SECOND FORM's CARD OF 'ostlerlaw14.MsgClean'. -/
def msgCleanUptoCard : Claim7 := { stood := { row := msgCleanUptoRow, standIns := [], harness := (true, "e8ac2e03e7fbab33a0b906d919a11fbe270f2d865f33ce0ef0f6cbdbbf784135"), looks := false }, kinds := [], alts := [], laidByText := true, laidKinds := [.data, .data, .data, .data, .pinned], laidTests := true, laidLooks := .later }
def MsgCleanUptoCardSaid : Prop := Claim7.holds Tryd.pinned (.plain (OpenSpec.upto msgCleanSpec)) msgCleanUptoCard
end Rows
end Go.Proofs.YtkfekopenahmdaaDoor

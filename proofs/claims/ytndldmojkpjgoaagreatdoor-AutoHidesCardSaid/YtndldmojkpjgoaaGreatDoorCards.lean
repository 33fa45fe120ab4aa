/-
  DERIVED. GIVEN WITH THE SEED: THE CARDS: each row of YtndldmojkpjgoaaGreatDoorRows.lean that lists a variable, with what it lists TIED to the program's text (the seventh form; the later family's looks); each row that meets fmt, with fmt's text TOLD by the authors' own Lean function (tested against real Go, not proved from fmt's source: count such statements apart). THE CARD IS WHAT COUNTS. Prove the row's statement (the work); the ties are given (YtndldmojkpjgoaaGreatDoorTie.lean); close each card by the builder's one call (the guide's Derived/Test/ToyasCard.lean, 'card_holds'). Laid BY PROGRAM, IN A SANDBOX (cutbox-door.mjs). By AI agents, Wed Nov 11 2026. No macro, syntax, notation, axiom, sorry.
-/
import Derived.Test.YtndldmojkpjgoaaGreatDoorRows
import GoSem.ClaimSeven
namespace Go.Proofs.YtndldmojkpjgoaaGreatDoor
namespace Rows

/-- THE TIED CARD OF 'doppelgangerlaw03.AutoHides'. -/
def autoHidesCard : Claim7 := { stood := { row := autoHidesRow, standIns := [], harness := (true, "f1c05b83f21d364ee8bd0b48f41895fcf4eb9dc17b0a2a50621b87a006d42284"), looks := false }, kinds := [], alts := [], laidByText := true, laidKinds := [.data], laidTests := true, laidLooks := .later }
def AutoHidesCardSaid : Prop := Claim7.holds Tryz.pinned (.plain (OpenSpec.ofChange autoHidesSpec)) autoHidesCard

/-- THE SECOND FORM's CARD OF 'doppelgangerlaw03.AutoHides'. -/
def autoHidesUptoCard : Claim7 := { stood := { row := autoHidesUptoRow, standIns := [], harness := (true, "f1c05b83f21d364ee8bd0b48f41895fcf4eb9dc17b0a2a50621b87a006d42284"), looks := false }, kinds := [], alts := [], laidByText := true, laidKinds := [.data], laidTests := true, laidLooks := .later }
def AutoHidesUptoCardSaid : Prop := Claim7.holds Tryz.pinned (.plain (OpenSpec.upto autoHidesSpec)) autoHidesUptoCard
end Rows
end Go.Proofs.YtndldmojkpjgoaaGreatDoor

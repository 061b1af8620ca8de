/-
  DERIVED. GIVEN WITH THE SEED: THE CARDS: each row of YtcpdanjbnijoiaaGreatDoorRows.lean that lists a variable, with what it lists TIED to the program's text (the seventh form; the later family's looks); each row that meets fmt, with fmt's text TOLD by the authors' own Lean function (tested against real Go, not proved from fmt's source: count such statements apart). THE CARD IS WHAT COUNTS. Prove the row's statement (the work); the ties are given (YtcpdanjbnijoiaaGreatDoorTie.lean); close each card by the builder's one call (the guide's Derived/Test/ToyasCard.lean, 'card_holds'). Laid BY PROGRAM, IN A SANDBOX (cutbox-door.mjs). By AI agents, Wed Nov 11 2026. No macro, syntax, notation, axiom, sorry.
-/
import Derived.Test.YtcpdanjbnijoiaaGreatDoorRows
import GoSem.ClaimSeven
namespace Go.Proofs.YtcpdanjbnijoiaaGreatDoor
namespace Rows

/-- THE TIED CARD OF 'portcullislaw14.AreaDoes'. -/
def areaDoesCard : Claim7 := { stood := { row := areaDoesRow, standIns := [], harness := (true, "e0565d05e90a9f0b9d8878bac06a17157a561377c991e74283e453df62607aa6"), looks := true }, kinds := [], alts := [], laidByText := true, laidKinds := [.handle], laidTests := true, laidLooks := .later }
def AreaDoesCardSaid : Prop := Claim7.holds Tryz.pinned (.plain (OpenSpec.ofChange areaDoesSpec)) areaDoesCard

/-- THE SECOND FORM's CARD OF 'portcullislaw14.AreaDoes'. -/
def areaDoesUptoCard : Claim7 := { stood := { row := areaDoesUptoRow, standIns := [], harness := (true, "e0565d05e90a9f0b9d8878bac06a17157a561377c991e74283e453df62607aa6"), looks := true }, kinds := [], alts := [], laidByText := true, laidKinds := [.handle], laidTests := true, laidLooks := .later }
def AreaDoesUptoCardSaid : Prop := Claim7.holds Tryz.pinned (.plain (OpenSpec.upto areaDoesSpec)) areaDoesUptoCard
end Rows
end Go.Proofs.YtcpdanjbnijoiaaGreatDoor

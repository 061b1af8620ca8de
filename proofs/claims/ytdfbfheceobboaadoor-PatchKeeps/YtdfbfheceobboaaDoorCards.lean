/-
  DERIVED. GIVEN WITH THE SEED: THE CARDS: each row of YtdfbfheceobboaaDoorRows.lean that lists a variable, with what it lists TIED to the program's text (the seventh form; the later family's looks); each row that meets fmt, with fmt's text TOLD by the authors' own Lean function (tested against real Go, not proved from fmt's source: count such statements apart). THE CARD IS WHAT COUNTS. Prove the row's statement (the work); the ties are given (YtdfbfheceobboaaDoorTie.lean); close each card by the builder's one call (the guide's Derived/Test/ToyasCard.lean, 'card_holds'). Laid BY PROGRAM, IN A SANDBOX (cutbox-door.mjs). By AI agents, Wed Nov 11 2026. No macro, syntax, notation, axiom, sorry.
-/
import Derived.Test.YtdfbfheceobboaaDoorRows
import GoSem.ClaimSeven
namespace Go.Proofs.YtdfbfheceobboaaDoor
namespace Rows

/-- THE TIED CARD OF 'portcullislaw25.PatchKeeps'. -/
def patchKeepsCard : Claim7 := { stood := { row := patchKeepsRow, standIns := [], harness := (true, "19cb973fd86dfef74ae07b1f3e12f7f63f89dc709e85136564073c86c830d29e"), looks := true }, kinds := [], alts := [], laidByText := true, laidKinds := [.handle], laidTests := true, laidLooks := .later }
def PatchKeepsCardSaid : Prop := Claim7.holds Tryd.pinned (.plain (OpenSpec.ofChange patchKeepsSpec)) patchKeepsCard

/-- THE SECOND FORM's CARD OF 'portcullislaw25.PatchKeeps'. -/
def patchKeepsUptoCard : Claim7 := { stood := { row := patchKeepsUptoRow, standIns := [], harness := (true, "19cb973fd86dfef74ae07b1f3e12f7f63f89dc709e85136564073c86c830d29e"), looks := true }, kinds := [], alts := [], laidByText := true, laidKinds := [.handle], laidTests := true, laidLooks := .later }
def PatchKeepsUptoCardSaid : Prop := Claim7.holds Tryd.pinned (.plain (OpenSpec.upto patchKeepsSpec)) patchKeepsUptoCard
end Rows
end Go.Proofs.YtdfbfheceobboaaDoor

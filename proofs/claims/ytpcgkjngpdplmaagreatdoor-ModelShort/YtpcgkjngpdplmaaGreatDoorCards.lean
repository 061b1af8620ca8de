/-
  DERIVED. GIVEN WITH THE SEED: THE CARDS: each row of YtpcgkjngpdplmaaGreatDoorRows.lean that lists a variable, with what it lists TIED to the program's text (the seventh form; the later family's looks); each row that meets fmt, with fmt's text TOLD by the authors' own Lean function (tested against real Go, not proved from fmt's source: count such statements apart). THE CARD IS WHAT COUNTS. Prove the row's statement (the work); the ties are given (YtpcgkjngpdplmaaGreatDoorTie.lean); close each card by the builder's one call (the guide's Derived/Test/ToyasCard.lean, 'card_holds'). Laid BY PROGRAM, IN A SANDBOX (cutbox-door.mjs). By AI agents, Wed Nov 11 2026. No macro, syntax, notation, axiom, sorry.
-/
import Derived.Test.YtpcgkjngpdplmaaGreatDoorRows
import GoSem.ClaimSeven
namespace Go.Proofs.YtpcgkjngpdplmaaGreatDoor
namespace Rows

/-- THE TIED CARD OF 'portcullislaw19.ModelExplains'. -/
def modelExplainsCard : Claim7 := { stood := { row := modelExplainsRow, standIns := [], harness := (true, "4110e820ac9ea498b637defc0e901adb90b8748fd984d4b556ac3a79c87d64d8"), looks := true }, kinds := [], alts := [], laidByText := true, laidKinds := [.handle], laidTests := true, laidLooks := .later }
def ModelExplainsCardSaid : Prop := Claim7.holds Tryz.pinned (.plain (OpenSpec.ofChange modelExplainsSpec)) modelExplainsCard

/-- THE TIED CARD OF 'portcullislaw19.ModelShort'. -/
def modelShortCard : Claim7 := { stood := { row := modelShortRow, standIns := [], harness := (true, "4110e820ac9ea498b637defc0e901adb90b8748fd984d4b556ac3a79c87d64d8"), looks := true }, kinds := [], alts := [], laidByText := true, laidKinds := [.handle], laidTests := true, laidLooks := .later }
def ModelShortCardSaid : Prop := Claim7.holds Tryz.pinned (.plain (OpenSpec.ofChange modelShortSpec)) modelShortCard

/-- THE SECOND FORM's CARD OF 'portcullislaw19.ModelExplains'. -/
def modelExplainsUptoCard : Claim7 := { stood := { row := modelExplainsUptoRow, standIns := [], harness := (true, "4110e820ac9ea498b637defc0e901adb90b8748fd984d4b556ac3a79c87d64d8"), looks := true }, kinds := [], alts := [], laidByText := true, laidKinds := [.handle], laidTests := true, laidLooks := .later }
def ModelExplainsUptoCardSaid : Prop := Claim7.holds Tryz.pinned (.plain (OpenSpec.upto modelExplainsSpec)) modelExplainsUptoCard

/-- THE SECOND FORM's CARD OF 'portcullislaw19.ModelShort'. -/
def modelShortUptoCard : Claim7 := { stood := { row := modelShortUptoRow, standIns := [], harness := (true, "4110e820ac9ea498b637defc0e901adb90b8748fd984d4b556ac3a79c87d64d8"), looks := true }, kinds := [], alts := [], laidByText := true, laidKinds := [.handle], laidTests := true, laidLooks := .later }
def ModelShortUptoCardSaid : Prop := Claim7.holds Tryz.pinned (.plain (OpenSpec.upto modelShortSpec)) modelShortUptoCard
end Rows
end Go.Proofs.YtpcgkjngpdplmaaGreatDoor

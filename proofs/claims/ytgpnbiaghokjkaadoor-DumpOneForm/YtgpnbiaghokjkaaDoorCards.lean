/-
  DERIVED. GIVEN WITH THE SEED: THE CARDS: each row of YtgpnbiaghokjkaaDoorRows.lean that lists a variable, with what it lists TIED to the program's text (the seventh form; the later family's looks); each row that meets fmt, with fmt's text TOLD by the authors' own Lean function (tested against real Go, not proved from fmt's source: count such statements apart). THE CARD IS WHAT COUNTS. Prove the row's statement (the work); the ties are given (YtgpnbiaghokjkaaDoorTie.lean); close each card by the builder's one call (the guide's Derived/Test/ToyasCard.lean, 'card_holds'). Laid BY PROGRAM, IN A SANDBOX (cutbox-door.mjs). By AI agents, Wed Nov 11 2026. No macro, syntax, notation, axiom, sorry.
-/
import Derived.Test.YtgpnbiaghokjkaaDoorRows
import GoSem.ClaimSeven
namespace Go.Proofs.YtgpnbiaghokjkaaDoor
namespace Rows

/-- THE TIED CARD OF 'portcullislaw21.DumpNames'. -/
def dumpNamesCard : Claim7 := { stood := { row := dumpNamesRow, standIns := [], harness := (true, "38d8e3552599762409230824062286872c875dc58e57033861d6fd523a082468"), looks := true }, kinds := [], alts := [], laidByText := true, laidKinds := [.data, .data, .data], laidTests := true, laidLooks := .later }
def DumpNamesCardSaid : Prop := Claim7.holds Tryd.pinned (.plain (OpenSpec.ofChange dumpNamesSpec)) dumpNamesCard

/-- THE TIED CARD OF 'portcullislaw21.DumpPrints'. -/
def dumpPrintsCard : Claim7 := { stood := { row := dumpPrintsRow, standIns := [], harness := (true, "38d8e3552599762409230824062286872c875dc58e57033861d6fd523a082468"), looks := true }, kinds := [], alts := [], laidByText := true, laidKinds := [.data, .data, .data], laidTests := true, laidLooks := .later }
def DumpPrintsCardSaid : Prop := Claim7.holds Tryd.pinned (.plain (OpenSpec.ofChange dumpPrintsSpec)) dumpPrintsCard

/-- THE TIED CARD OF 'portcullislaw21.DumpParses'. -/
def dumpParsesCard : Claim7 := { stood := { row := dumpParsesRow, standIns := [], harness := (true, "38d8e3552599762409230824062286872c875dc58e57033861d6fd523a082468"), looks := true }, kinds := [], alts := [], laidByText := true, laidKinds := [.data, .data, .data], laidTests := true, laidLooks := .later }
def DumpParsesCardSaid : Prop := Claim7.holds Tryd.pinned (.plain (OpenSpec.ofChange dumpParsesSpec)) dumpParsesCard

/-- THE TIED CARD OF 'portcullislaw21.DumpReturns'. -/
def dumpReturnsCard : Claim7 := { stood := { row := dumpReturnsRow, standIns := [], harness := (true, "38d8e3552599762409230824062286872c875dc58e57033861d6fd523a082468"), looks := true }, kinds := [], alts := [], laidByText := true, laidKinds := [.data, .data, .data], laidTests := true, laidLooks := .later }
def DumpReturnsCardSaid : Prop := Claim7.holds Tryd.pinned (.plain (OpenSpec.ofChange dumpReturnsSpec)) dumpReturnsCard

/-- THE TIED CARD OF 'portcullislaw21.DumpOneForm'. -/
def dumpOneFormCard : Claim7 := { stood := { row := dumpOneFormRow, standIns := [], harness := (true, "38d8e3552599762409230824062286872c875dc58e57033861d6fd523a082468"), looks := true }, kinds := [], alts := [], laidByText := true, laidKinds := [.data, .data, .data], laidTests := true, laidLooks := .later }
def DumpOneFormCardSaid : Prop := Claim7.holds Tryd.pinned (.plain (OpenSpec.ofChange dumpOneFormSpec)) dumpOneFormCard

/-- THE TIED CARD OF 'portcullislaw21.DumpKeeps'. -/
def dumpKeepsCard : Claim7 := { stood := { row := dumpKeepsRow, standIns := [], harness := (true, "38d8e3552599762409230824062286872c875dc58e57033861d6fd523a082468"), looks := true }, kinds := [], alts := [], laidByText := true, laidKinds := [.data, .data, .data], laidTests := true, laidLooks := .later }
def DumpKeepsCardSaid : Prop := Claim7.holds Tryd.pinned (.plain (OpenSpec.ofChange dumpKeepsSpec)) dumpKeepsCard

/-- THE SECOND FORM's CARD OF 'portcullislaw21.DumpNames'. -/
def dumpNamesUptoCard : Claim7 := { stood := { row := dumpNamesUptoRow, standIns := [], harness := (true, "38d8e3552599762409230824062286872c875dc58e57033861d6fd523a082468"), looks := true }, kinds := [], alts := [], laidByText := true, laidKinds := [.data, .data, .data], laidTests := true, laidLooks := .later }
def DumpNamesUptoCardSaid : Prop := Claim7.holds Tryd.pinned (.plain (OpenSpec.upto dumpNamesSpec)) dumpNamesUptoCard

/-- THE SECOND FORM's CARD OF 'portcullislaw21.DumpPrints'. -/
def dumpPrintsUptoCard : Claim7 := { stood := { row := dumpPrintsUptoRow, standIns := [], harness := (true, "38d8e3552599762409230824062286872c875dc58e57033861d6fd523a082468"), looks := true }, kinds := [], alts := [], laidByText := true, laidKinds := [.data, .data, .data], laidTests := true, laidLooks := .later }
def DumpPrintsUptoCardSaid : Prop := Claim7.holds Tryd.pinned (.plain (OpenSpec.upto dumpPrintsSpec)) dumpPrintsUptoCard

/-- THE SECOND FORM's CARD OF 'portcullislaw21.DumpParses'. -/
def dumpParsesUptoCard : Claim7 := { stood := { row := dumpParsesUptoRow, standIns := [], harness := (true, "38d8e3552599762409230824062286872c875dc58e57033861d6fd523a082468"), looks := true }, kinds := [], alts := [], laidByText := true, laidKinds := [.data, .data, .data], laidTests := true, laidLooks := .later }
def DumpParsesUptoCardSaid : Prop := Claim7.holds Tryd.pinned (.plain (OpenSpec.upto dumpParsesSpec)) dumpParsesUptoCard

/-- THE SECOND FORM's CARD OF 'portcullislaw21.DumpReturns'. -/
def dumpReturnsUptoCard : Claim7 := { stood := { row := dumpReturnsUptoRow, standIns := [], harness := (true, "38d8e3552599762409230824062286872c875dc58e57033861d6fd523a082468"), looks := true }, kinds := [], alts := [], laidByText := true, laidKinds := [.data, .data, .data], laidTests := true, laidLooks := .later }
def DumpReturnsUptoCardSaid : Prop := Claim7.holds Tryd.pinned (.plain (OpenSpec.upto dumpReturnsSpec)) dumpReturnsUptoCard

/-- THE SECOND FORM's CARD OF 'portcullislaw21.DumpOneForm'. -/
def dumpOneFormUptoCard : Claim7 := { stood := { row := dumpOneFormUptoRow, standIns := [], harness := (true, "38d8e3552599762409230824062286872c875dc58e57033861d6fd523a082468"), looks := true }, kinds := [], alts := [], laidByText := true, laidKinds := [.data, .data, .data], laidTests := true, laidLooks := .later }
def DumpOneFormUptoCardSaid : Prop := Claim7.holds Tryd.pinned (.plain (OpenSpec.upto dumpOneFormSpec)) dumpOneFormUptoCard

/-- THE SECOND FORM's CARD OF 'portcullislaw21.DumpKeeps'. -/
def dumpKeepsUptoCard : Claim7 := { stood := { row := dumpKeepsUptoRow, standIns := [], harness := (true, "38d8e3552599762409230824062286872c875dc58e57033861d6fd523a082468"), looks := true }, kinds := [], alts := [], laidByText := true, laidKinds := [.data, .data, .data], laidTests := true, laidLooks := .later }
def DumpKeepsUptoCardSaid : Prop := Claim7.holds Tryd.pinned (.plain (OpenSpec.upto dumpKeepsSpec)) dumpKeepsUptoCard
end Rows
end Go.Proofs.YtgpnbiaghokjkaaDoor

/-
  DERIVED. GIVEN WITH THE SEED: THE CARDS: each row of YtplpoehfdhkhmaaDoorRows.lean that lists a variable, with what it lists TIED to the program's text (the seventh form; the later family's looks); each row that meets fmt, with fmt's text TOLD by the authors' own Lean function (tested against real Go, not proved from fmt's source: count such statements apart). THE CARD IS WHAT COUNTS. Prove the row's statement (the work); the ties are given (YtplpoehfdhkhmaaDoorTie.lean); close each card by the builder's one call (the guide's Derived/Test/ToyasCard.lean, 'card_holds'). Laid BY PROGRAM, IN A SANDBOX (cutbox-door.mjs). By AI agents, Wed Nov 11 2026. No macro, syntax, notation, axiom, sorry.
-/
import Derived.Test.YtplpoehfdhkhmaaDoorRows
import GoSem.ClaimSeven
namespace Go.Proofs.YtplpoehfdhkhmaaDoor
namespace Rows

/-- THE TIED CARD OF 'portcullislaw25.PatchNames'. -/
def patchNamesCard : Claim7 := { stood := { row := patchNamesRow, standIns := [], harness := (true, "af9fb5cd85eec0de4c44b89e40aa89fa9bb4027c17f7e9db7123c0d94832735c"), looks := true }, kinds := [], alts := [], laidByText := true, laidKinds := [.handle], laidTests := true, laidLooks := .later }
def PatchNamesCardSaid : Prop := Claim7.holds Tryd.pinned (.plain (OpenSpec.ofChange patchNamesSpec)) patchNamesCard

/-- THE TIED CARD OF 'portcullislaw25.PatchReads'. -/
def patchReadsCard : Claim7 := { stood := { row := patchReadsRow, standIns := [], harness := (true, "af9fb5cd85eec0de4c44b89e40aa89fa9bb4027c17f7e9db7123c0d94832735c"), looks := true }, kinds := [], alts := [], laidByText := true, laidKinds := [.handle], laidTests := true, laidLooks := .later }
def PatchReadsCardSaid : Prop := Claim7.holds Tryd.pinned (.plain (OpenSpec.ofChange patchReadsSpec)) patchReadsCard

/-- THE TIED CARD OF 'portcullislaw25.PatchMakes'. -/
def patchMakesCard : Claim7 := { stood := { row := patchMakesRow, standIns := [], harness := (true, "af9fb5cd85eec0de4c44b89e40aa89fa9bb4027c17f7e9db7123c0d94832735c"), looks := true }, kinds := [], alts := [], laidByText := true, laidKinds := [.handle], laidTests := true, laidLooks := .later }
def PatchMakesCardSaid : Prop := Claim7.holds Tryd.pinned (.plain (OpenSpec.ofChange patchMakesSpec)) patchMakesCard

/-- THE TIED CARD OF 'portcullislaw25.PatchTells'. -/
def patchTellsCard : Claim7 := { stood := { row := patchTellsRow, standIns := [], harness := (true, "af9fb5cd85eec0de4c44b89e40aa89fa9bb4027c17f7e9db7123c0d94832735c"), looks := true }, kinds := [], alts := [], laidByText := true, laidKinds := [.handle], laidTests := true, laidLooks := .later }
def PatchTellsCardSaid : Prop := Claim7.holds Tryd.pinned (.plain (OpenSpec.ofChange patchTellsSpec)) patchTellsCard

/-- THE TIED CARD OF 'portcullislaw25.PatchJoins'. -/
def patchJoinsCard : Claim7 := { stood := { row := patchJoinsRow, standIns := [], harness := (true, "af9fb5cd85eec0de4c44b89e40aa89fa9bb4027c17f7e9db7123c0d94832735c"), looks := true }, kinds := [], alts := [], laidByText := true, laidKinds := [.handle], laidTests := true, laidLooks := .later }
def PatchJoinsCardSaid : Prop := Claim7.holds Tryd.pinned (.plain (OpenSpec.ofChange patchJoinsSpec)) patchJoinsCard

/-- THE TIED CARD OF 'portcullislaw25.PatchChains'. -/
def patchChainsCard : Claim7 := { stood := { row := patchChainsRow, standIns := [], harness := (true, "af9fb5cd85eec0de4c44b89e40aa89fa9bb4027c17f7e9db7123c0d94832735c"), looks := true }, kinds := [], alts := [], laidByText := true, laidKinds := [.handle], laidTests := true, laidLooks := .later }
def PatchChainsCardSaid : Prop := Claim7.holds Tryd.pinned (.plain (OpenSpec.ofChange patchChainsSpec)) patchChainsCard

/-- THE SECOND FORM's CARD OF 'portcullislaw25.PatchNames'. -/
def patchNamesUptoCard : Claim7 := { stood := { row := patchNamesUptoRow, standIns := [], harness := (true, "af9fb5cd85eec0de4c44b89e40aa89fa9bb4027c17f7e9db7123c0d94832735c"), looks := true }, kinds := [], alts := [], laidByText := true, laidKinds := [.handle], laidTests := true, laidLooks := .later }
def PatchNamesUptoCardSaid : Prop := Claim7.holds Tryd.pinned (.plain (OpenSpec.upto patchNamesSpec)) patchNamesUptoCard

/-- THE SECOND FORM's CARD OF 'portcullislaw25.PatchReads'. -/
def patchReadsUptoCard : Claim7 := { stood := { row := patchReadsUptoRow, standIns := [], harness := (true, "af9fb5cd85eec0de4c44b89e40aa89fa9bb4027c17f7e9db7123c0d94832735c"), looks := true }, kinds := [], alts := [], laidByText := true, laidKinds := [.handle], laidTests := true, laidLooks := .later }
def PatchReadsUptoCardSaid : Prop := Claim7.holds Tryd.pinned (.plain (OpenSpec.upto patchReadsSpec)) patchReadsUptoCard

/-- THE SECOND FORM's CARD OF 'portcullislaw25.PatchMakes'. -/
def patchMakesUptoCard : Claim7 := { stood := { row := patchMakesUptoRow, standIns := [], harness := (true, "af9fb5cd85eec0de4c44b89e40aa89fa9bb4027c17f7e9db7123c0d94832735c"), looks := true }, kinds := [], alts := [], laidByText := true, laidKinds := [.handle], laidTests := true, laidLooks := .later }
def PatchMakesUptoCardSaid : Prop := Claim7.holds Tryd.pinned (.plain (OpenSpec.upto patchMakesSpec)) patchMakesUptoCard

/-- THE SECOND FORM's CARD OF 'portcullislaw25.PatchTells'. -/
def patchTellsUptoCard : Claim7 := { stood := { row := patchTellsUptoRow, standIns := [], harness := (true, "af9fb5cd85eec0de4c44b89e40aa89fa9bb4027c17f7e9db7123c0d94832735c"), looks := true }, kinds := [], alts := [], laidByText := true, laidKinds := [.handle], laidTests := true, laidLooks := .later }
def PatchTellsUptoCardSaid : Prop := Claim7.holds Tryd.pinned (.plain (OpenSpec.upto patchTellsSpec)) patchTellsUptoCard

/-- THE SECOND FORM's CARD OF 'portcullislaw25.PatchJoins'. -/
def patchJoinsUptoCard : Claim7 := { stood := { row := patchJoinsUptoRow, standIns := [], harness := (true, "af9fb5cd85eec0de4c44b89e40aa89fa9bb4027c17f7e9db7123c0d94832735c"), looks := true }, kinds := [], alts := [], laidByText := true, laidKinds := [.handle], laidTests := true, laidLooks := .later }
def PatchJoinsUptoCardSaid : Prop := Claim7.holds Tryd.pinned (.plain (OpenSpec.upto patchJoinsSpec)) patchJoinsUptoCard

/-- THE SECOND FORM's CARD OF 'portcullislaw25.PatchChains'. -/
def patchChainsUptoCard : Claim7 := { stood := { row := patchChainsUptoRow, standIns := [], harness := (true, "af9fb5cd85eec0de4c44b89e40aa89fa9bb4027c17f7e9db7123c0d94832735c"), looks := true }, kinds := [], alts := [], laidByText := true, laidKinds := [.handle], laidTests := true, laidLooks := .later }
def PatchChainsUptoCardSaid : Prop := Claim7.holds Tryd.pinned (.plain (OpenSpec.upto patchChainsSpec)) patchChainsUptoCard
end Rows
end Go.Proofs.YtplpoehfdhkhmaaDoor

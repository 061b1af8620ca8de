/-
  DERIVED. GIVEN WITH THE SEED: THE CARDS: each row of YtcpdanjbnijoiaaDoorRows.lean that lists a variable, with what it lists TIED to the program's text (the seventh form; the later family's looks); each row that meets fmt, with fmt's text TOLD by the authors' own Lean function (tested against real Go, not proved from fmt's source: count such statements apart). THE CARD IS WHAT COUNTS. Prove the row's statement (the work); the ties are given (YtcpdanjbnijoiaaDoorTie.lean); close each card by the builder's one call (the guide's Derived/Test/ToyasCard.lean, 'card_holds'). Laid BY PROGRAM, IN A SANDBOX (cutbox-door.mjs). By AI agents, Wed Nov 11 2026. No macro, syntax, notation, axiom, sorry.
-/
import Derived.Test.YtcpdanjbnijoiaaDoorRows
import GoSem.ClaimSeven
namespace Go.Proofs.YtcpdanjbnijoiaaDoor
namespace Rows

/-- THE TIED CARD OF 'portcullislaw14.AreaWrites'. -/
def areaWritesCard : Claim7 := { stood := { row := areaWritesRow, standIns := [], harness := (true, "290a7d8041946075ade6a8b2602e232822f25b0f708faa8a87b117766198142c"), looks := true }, kinds := [], alts := [], laidByText := true, laidKinds := [.handle], laidTests := true, laidLooks := .later }
def AreaWritesCardSaid : Prop := Claim7.holds Tryd.pinned (.plain (OpenSpec.ofChange areaWritesSpec)) areaWritesCard

/-- THE SECOND FORM's CARD OF 'portcullislaw14.AreaWrites'. -/
def areaWritesUptoCard : Claim7 := { stood := { row := areaWritesUptoRow, standIns := [], harness := (true, "290a7d8041946075ade6a8b2602e232822f25b0f708faa8a87b117766198142c"), looks := true }, kinds := [], alts := [], laidByText := true, laidKinds := [.handle], laidTests := true, laidLooks := .later }
def AreaWritesUptoCardSaid : Prop := Claim7.holds Tryd.pinned (.plain (OpenSpec.upto areaWritesSpec)) areaWritesUptoCard
end Rows
end Go.Proofs.YtcpdanjbnijoiaaDoor

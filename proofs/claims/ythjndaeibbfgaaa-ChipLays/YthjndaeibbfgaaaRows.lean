/-
  No cell of these rows narrows 'for every input' (looked for: loops, veiled, ifaces, maps, wideKeys, modest, calm, conditions, laid).
  DERIVED. THE GIVEN ROWS OF THIS SEAT. 3 by the template 'for every input the law returns true; each argument reads behind the call as it read before'; 0 by the template 'total and deterministic' (their statements: YthjndaeibbfgaaaTotals.lean).
  GIVEN WITH THE SEED: the statements are not yours to turn. If you find one false, say at which input.
  Laid BY PROGRAM, IN A SANDBOX (cutbox-rows.mjs): the forced cells as the released guide's own fill.sh prints them over the translation 5519bf8bada71c1d… (all of the seat's roots in one cut). By AI agents, Wed Nov 11 2026. No macro, syntax, notation, axiom, sorry.
-/
import Derived.Test.YthjndaeibbfgaaaChecked
import GoSem.Claim
import GoSem.ClaimJoined
import GoSem.ClaimMapViews
import Derived.JoinedTies
import Derived.KernelRfl
namespace Go.Proofs.Ythjndaeibbfgaaa
/- THE CELL 'sum', in the pinned program and in every row, IS THE sha256 OF THE DUMP (.gsa) THAT YthjndaeibbfgaaaProg.lean LOADS. Nothing in Lean hashes anything: it is a label: what it is worth is what the hold of that sum in a sandbox is worth. -/
noncomputable def Try.pinned : Pinned := { name := "ythjndaeibbfgaaa", sum := "5519bf8bada71c1d1e7e0c8726600f79bafb8af82e7e9ab032eb10fa9c123241", checked := Try.checked }
namespace Rows
def none {H : Type} : Left H := { results := [], args := [] }

/-- 'portcullislaw04.ChipDoes': WHATEVER THE INPUT: true; the input reads as it did. -/
def chipDoesSpec : ChangeSpec := { name := "chipDoes", fn := fun _ => fun
  | [d1, d2] => { results := [.lit (.bool true)], args := [d1, d2] }
  | _ => none }
def chipDoesRow : OpenClaim := { program := "ythjndaeibbfgaaa", sum := "5519bf8bada71c1d1e7e0c8726600f79bafb8af82e7e9ab032eb10fa9c123241", func := "portcullis/portcullislaw04.ChipDoes", spec := "chipDoes", apart := false }
def ChipDoesSaid : Prop := chipDoesRow.holds Try.pinned (OpenSpec.ofChange chipDoesSpec)

/-- ITS FALSE NEIGHBOUR: 'it returns false'. Refute it at one input. -/
def chipDoesWrong : ChangeSpec := { name := "chipDoes", fn := fun _ => fun
  | [d1, d2] => { results := [.lit (.bool false)], args := [d1, d2] }
  | _ => none }
def ChipDoesWrongFalsely : Prop := chipDoesRow.holds Try.pinned (OpenSpec.ofChange chipDoesWrong)

/-- 'portcullislaw04.ChipLays': WHATEVER THE INPUT: true; the input reads as it did. -/
def chipLaysSpec : ChangeSpec := { name := "chipLays", fn := fun _ => fun
  | [d1, d2, d3] => { results := [.lit (.bool true)], args := [d1, d2, d3] }
  | _ => none }
def chipLaysRow : OpenClaim := { program := "ythjndaeibbfgaaa", sum := "5519bf8bada71c1d1e7e0c8726600f79bafb8af82e7e9ab032eb10fa9c123241", func := "portcullis/portcullislaw04.ChipLays", spec := "chipLays", apart := false }
def ChipLaysSaid : Prop := chipLaysRow.holds Try.pinned (OpenSpec.ofChange chipLaysSpec)

/-- ITS FALSE NEIGHBOUR: 'it returns false'. Refute it at one input. -/
def chipLaysWrong : ChangeSpec := { name := "chipLays", fn := fun _ => fun
  | [d1, d2, d3] => { results := [.lit (.bool false)], args := [d1, d2, d3] }
  | _ => none }
def ChipLaysWrongFalsely : Prop := chipLaysRow.holds Try.pinned (OpenSpec.ofChange chipLaysWrong)

/-- 'portcullislaw04.ChipCuts': WHATEVER THE INPUT: true; the input reads as it did. -/
def chipCutsSpec : ChangeSpec := { name := "chipCuts", fn := fun _ => fun
  | [d1, d2, d3, d4] => { results := [.lit (.bool true)], args := [d1, d2, d3, d4] }
  | _ => none }
def chipCutsRow : OpenClaim := { program := "ythjndaeibbfgaaa", sum := "5519bf8bada71c1d1e7e0c8726600f79bafb8af82e7e9ab032eb10fa9c123241", func := "portcullis/portcullislaw04.ChipCuts", spec := "chipCuts", apart := false }
def ChipCutsSaid : Prop := chipCutsRow.holds Try.pinned (OpenSpec.ofChange chipCutsSpec)

/-- ITS FALSE NEIGHBOUR: 'it returns false'. Refute it at one input. -/
def chipCutsWrong : ChangeSpec := { name := "chipCuts", fn := fun _ => fun
  | [d1, d2, d3, d4] => { results := [.lit (.bool false)], args := [d1, d2, d3, d4] }
  | _ => none }
def ChipCutsWrongFalsely : Prop := chipCutsRow.holds Try.pinned (OpenSpec.ofChange chipCutsWrong)

/- THE SECOND FORM. 'bulk': how many values and letters a reading holds, each counted each time it is reached (what is shared counts as often as it is met; a slice's spare places count too). A statement '..UptoSaid' is the law's where the arguments, and the package variables that the reading takes, are together of bulk at most 1048576: NARROWER than '..Said'. Prove '..Said' where nothing that the law and all that it calls make is longer than what came in: it says more and counts as full. Else prove '..UptoSaid'. A law counts once. -/
mutual
def uptoBulk {H : Type} : DataW H → Nat
  | .lit (.string bytes) => bytes.length + 1
  | .lit _ => 1
  | .nil => 1
  | .ptr d => uptoBulk d + 1
  | .slice elems spare => uptoBulkAll elems + uptoBulkAll spare + 1
  | .agg parts => uptoBulkAll parts + 1
  | .iface _ d => uptoBulk d + 1
  | .map entries => uptoBulkEntries entries + 1
  | .held _ => 1
def uptoBulkAll {H : Type} : List (DataW H) → Nat
  | [] => 0
  | d :: r => uptoBulk d + uptoBulkAll r
def uptoBulkEntries {H : Type} : List (Lit × DataW H) → Nat
  | [] => 0
  | x :: r => uptoBulkEntry x + uptoBulkEntries r
def uptoBulkEntry {H : Type} : Lit × DataW H → Nat
  | (.string bytes, d) => bytes.length + uptoBulk d + 1
  | (_, d) => uptoBulk d + 1
 end
def uptoSmall : (H : Type) → List (DataW H) → Bool := fun _ ds => decide (uptoBulkAll ds ≤ 1048576)
def OpenSpec.upto (s : _root_.Go.ChangeSpec) : _root_.Go.OpenSpec := { _root_.Go.OpenSpec.ofChange s with cond := some uptoSmall }

/-- 'portcullislaw04.ChipDoes', WHERE WHAT IT READS IS OF BULK AT MOST 1048576: true; the input reads as it did. -/
def chipDoesUptoRow : OpenClaim := { program := "ythjndaeibbfgaaa", sum := "5519bf8bada71c1d1e7e0c8726600f79bafb8af82e7e9ab032eb10fa9c123241", func := "portcullis/portcullislaw04.ChipDoes", spec := "chipDoes", apart := false, narrowed := true }
def ChipDoesUptoSaid : Prop := chipDoesUptoRow.holds Try.pinned (OpenSpec.upto chipDoesSpec)

/-- 'portcullislaw04.ChipLays', WHERE WHAT IT READS IS OF BULK AT MOST 1048576: true; the input reads as it did. -/
def chipLaysUptoRow : OpenClaim := { program := "ythjndaeibbfgaaa", sum := "5519bf8bada71c1d1e7e0c8726600f79bafb8af82e7e9ab032eb10fa9c123241", func := "portcullis/portcullislaw04.ChipLays", spec := "chipLays", apart := false, narrowed := true }
def ChipLaysUptoSaid : Prop := chipLaysUptoRow.holds Try.pinned (OpenSpec.upto chipLaysSpec)

/-- 'portcullislaw04.ChipCuts', WHERE WHAT IT READS IS OF BULK AT MOST 1048576: true; the input reads as it did. -/
def chipCutsUptoRow : OpenClaim := { program := "ythjndaeibbfgaaa", sum := "5519bf8bada71c1d1e7e0c8726600f79bafb8af82e7e9ab032eb10fa9c123241", func := "portcullis/portcullislaw04.ChipCuts", spec := "chipCuts", apart := false, narrowed := true }
def ChipCutsUptoSaid : Prop := chipCutsUptoRow.holds Try.pinned (OpenSpec.upto chipCutsSpec)

end Rows
end Go.Proofs.Ythjndaeibbfgaaa

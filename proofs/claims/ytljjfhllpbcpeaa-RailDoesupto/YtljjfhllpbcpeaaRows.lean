/-
  No cell of these rows narrows 'for every input' (looked for: loops, veiled, ifaces, maps, wideKeys, modest, calm, conditions, laid).
  DERIVED. THE GIVEN ROWS OF THIS SEAT. 5 by the template 'for every input the law returns true; each argument reads behind the call as it read before'; 0 by the template 'total and deterministic' (their statements: YtljjfhllpbcpeaaTotals.lean).
  GIVEN WITH THE SEED: the statements are not yours to turn. If you find one false, say at which input.
  Laid BY PROGRAM, IN A SANDBOX (cutbox-rows.mjs): the forced cells as the released guide's own fill.sh prints them over the translation 26c1c1af5bf69ea1… (all of the seat's roots in one cut). By AI agents, Wed Nov 11 2026. No macro, syntax, notation, axiom, sorry.
-/
import Derived.Test.YtljjfhllpbcpeaaChecked
import GoSem.Claim
import GoSem.ClaimJoined
import GoSem.ClaimMapViews
import Derived.JoinedTies
import Derived.KernelRfl
namespace Go.Proofs.Ytljjfhllpbcpeaa
/- THE CELL 'sum', in the pinned program and in every row, IS THE sha256 OF THE DUMP (.gsa) THAT YtljjfhllpbcpeaaProg.lean LOADS. Nothing in Lean hashes anything: it is a label: what it is worth is what the hold of that sum in a sandbox is worth. -/
noncomputable def Try.pinned : Pinned := { name := "ytljjfhllpbcpeaa", sum := "26c1c1af5bf69ea16fff948b9ef702b519467afc04b464c2c55b818809f4beda", checked := Try.checked }
namespace Rows
def none {H : Type} : Left H := { results := [], args := [] }

/-- 'portcullislaw05.RailNames': WHATEVER THE INPUT: true; the input reads as it did. -/
def railNamesSpec : ChangeSpec := { name := "railNames", fn := fun _ => fun
  | [] => { results := [.lit (.bool true)], args := [] }
  | _ => none }
def railNamesRow : OpenClaim := { program := "ytljjfhllpbcpeaa", sum := "26c1c1af5bf69ea16fff948b9ef702b519467afc04b464c2c55b818809f4beda", func := "portcullis/portcullislaw05.RailNames", spec := "railNames", apart := false }
def RailNamesSaid : Prop := railNamesRow.holds Try.pinned (OpenSpec.ofChange railNamesSpec)

/-- ITS FALSE NEIGHBOUR: 'it returns false'. Refute it at one input. -/
def railNamesWrong : ChangeSpec := { name := "railNames", fn := fun _ => fun
  | [] => { results := [.lit (.bool false)], args := [] }
  | _ => none }
def RailNamesWrongFalsely : Prop := railNamesRow.holds Try.pinned (OpenSpec.ofChange railNamesWrong)

/-- 'portcullislaw05.RailDoes': WHATEVER THE INPUT: true; the input reads as it did. -/
def railDoesSpec : ChangeSpec := { name := "railDoes", fn := fun _ => fun
  | [d1, d2] => { results := [.lit (.bool true)], args := [d1, d2] }
  | _ => none }
def railDoesRow : OpenClaim := { program := "ytljjfhllpbcpeaa", sum := "26c1c1af5bf69ea16fff948b9ef702b519467afc04b464c2c55b818809f4beda", func := "portcullis/portcullislaw05.RailDoes", spec := "railDoes", apart := false }
def RailDoesSaid : Prop := railDoesRow.holds Try.pinned (OpenSpec.ofChange railDoesSpec)

/-- ITS FALSE NEIGHBOUR: 'it returns false'. Refute it at one input. -/
def railDoesWrong : ChangeSpec := { name := "railDoes", fn := fun _ => fun
  | [d1, d2] => { results := [.lit (.bool false)], args := [d1, d2] }
  | _ => none }
def RailDoesWrongFalsely : Prop := railDoesRow.holds Try.pinned (OpenSpec.ofChange railDoesWrong)

/-- 'portcullislaw05.RailTells': WHATEVER THE INPUT: true; the input reads as it did. -/
def railTellsSpec : ChangeSpec := { name := "railTells", fn := fun _ => fun
  | [d1, d2, d3] => { results := [.lit (.bool true)], args := [d1, d2, d3] }
  | _ => none }
def railTellsRow : OpenClaim := { program := "ytljjfhllpbcpeaa", sum := "26c1c1af5bf69ea16fff948b9ef702b519467afc04b464c2c55b818809f4beda", func := "portcullis/portcullislaw05.RailTells", spec := "railTells", apart := false }
def RailTellsSaid : Prop := railTellsRow.holds Try.pinned (OpenSpec.ofChange railTellsSpec)

/-- ITS FALSE NEIGHBOUR: 'it returns false'. Refute it at one input. -/
def railTellsWrong : ChangeSpec := { name := "railTells", fn := fun _ => fun
  | [d1, d2, d3] => { results := [.lit (.bool false)], args := [d1, d2, d3] }
  | _ => none }
def RailTellsWrongFalsely : Prop := railTellsRow.holds Try.pinned (OpenSpec.ofChange railTellsWrong)

/-- 'portcullislaw05.RailBack': WHATEVER THE INPUT: true; the input reads as it did. -/
def railBackSpec : ChangeSpec := { name := "railBack", fn := fun _ => fun
  | [d] => { results := [.lit (.bool true)], args := [d] }
  | _ => none }
def railBackRow : OpenClaim := { program := "ytljjfhllpbcpeaa", sum := "26c1c1af5bf69ea16fff948b9ef702b519467afc04b464c2c55b818809f4beda", func := "portcullis/portcullislaw05.RailBack", spec := "railBack", apart := false }
def RailBackSaid : Prop := railBackRow.holds Try.pinned (OpenSpec.ofChange railBackSpec)

/-- ITS FALSE NEIGHBOUR: 'it returns false'. Refute it at one input. -/
def railBackWrong : ChangeSpec := { name := "railBack", fn := fun _ => fun
  | [d] => { results := [.lit (.bool false)], args := [d] }
  | _ => none }
def RailBackWrongFalsely : Prop := railBackRow.holds Try.pinned (OpenSpec.ofChange railBackWrong)

/-- 'portcullislaw05.RailKeeps': WHATEVER THE INPUT: true; the input reads as it did. -/
def railKeepsSpec : ChangeSpec := { name := "railKeeps", fn := fun _ => fun
  | [d] => { results := [.lit (.bool true)], args := [d] }
  | _ => none }
def railKeepsRow : OpenClaim := { program := "ytljjfhllpbcpeaa", sum := "26c1c1af5bf69ea16fff948b9ef702b519467afc04b464c2c55b818809f4beda", func := "portcullis/portcullislaw05.RailKeeps", spec := "railKeeps", unfollowed := true, recurses := true, apart := false }
def RailKeepsSaid : Prop := railKeepsRow.holds Try.pinned (OpenSpec.ofChange railKeepsSpec)

/-- ITS FALSE NEIGHBOUR: 'it returns false'. Refute it at one input. -/
def railKeepsWrong : ChangeSpec := { name := "railKeeps", fn := fun _ => fun
  | [d] => { results := [.lit (.bool false)], args := [d] }
  | _ => none }
def RailKeepsWrongFalsely : Prop := railKeepsRow.holds Try.pinned (OpenSpec.ofChange railKeepsWrong)

/- THE SECOND FORM. 'bulk': how many values and letters a reading holds, each counted each time it is reached (what is shared counts as often as it is met; a slice's spare places count too). A statement '..UptoSaid' is the law's where the arguments, and the package variables that the reading takes, are together of bulk at most 1048576: NARROWER than '..Said'. Prove '..Said' where nothing that the law and all that it calls make is longer than what came in: it says more and counts as full. Else prove '..UptoSaid'. A law counts once. -/
mutual
def uptoBulk {H : Type} : DataW H → Nat
  | .lit (.string bytes) => bytes.length + 1
  | .lit _ => 1
  | .nil => 1
  | .ptr d => uptoBulk d + 1
  | .slice elems spare => uptoBulkAll elems + uptoBulkAll spare + 1
  | .agg parts => uptoBulkAll parts + 1
  | .iface _ d => uptoBulk d + 1
  | .map entries => uptoBulkEntries entries + 1
  | .held _ => 1
def uptoBulkAll {H : Type} : List (DataW H) → Nat
  | [] => 0
  | d :: r => uptoBulk d + uptoBulkAll r
def uptoBulkEntries {H : Type} : List (Lit × DataW H) → Nat
  | [] => 0
  | x :: r => uptoBulkEntry x + uptoBulkEntries r
def uptoBulkEntry {H : Type} : Lit × DataW H → Nat
  | (.string bytes, d) => bytes.length + uptoBulk d + 1
  | (_, d) => uptoBulk d + 1
 end
def uptoSmall : (H : Type) → List (DataW H) → Bool := fun _ ds => decide (uptoBulkAll ds ≤ 1048576)
def OpenSpec.upto (s : _root_.Go.ChangeSpec) : _root_.Go.OpenSpec := { _root_.Go.OpenSpec.ofChange s with cond := some uptoSmall }

/-- 'portcullislaw05.RailNames', WHERE WHAT IT READS IS OF BULK AT MOST 1048576: true; the input reads as it did. -/
def railNamesUptoRow : OpenClaim := { program := "ytljjfhllpbcpeaa", sum := "26c1c1af5bf69ea16fff948b9ef702b519467afc04b464c2c55b818809f4beda", func := "portcullis/portcullislaw05.RailNames", spec := "railNames", apart := false, narrowed := true }
def RailNamesUptoSaid : Prop := railNamesUptoRow.holds Try.pinned (OpenSpec.upto railNamesSpec)

/-- 'portcullislaw05.RailDoes', WHERE WHAT IT READS IS OF BULK AT MOST 1048576: true; the input reads as it did. -/
def railDoesUptoRow : OpenClaim := { program := "ytljjfhllpbcpeaa", sum := "26c1c1af5bf69ea16fff948b9ef702b519467afc04b464c2c55b818809f4beda", func := "portcullis/portcullislaw05.RailDoes", spec := "railDoes", apart := false, narrowed := true }
def RailDoesUptoSaid : Prop := railDoesUptoRow.holds Try.pinned (OpenSpec.upto railDoesSpec)

/-- 'portcullislaw05.RailTells', WHERE WHAT IT READS IS OF BULK AT MOST 1048576: true; the input reads as it did. -/
def railTellsUptoRow : OpenClaim := { program := "ytljjfhllpbcpeaa", sum := "26c1c1af5bf69ea16fff948b9ef702b519467afc04b464c2c55b818809f4beda", func := "portcullis/portcullislaw05.RailTells", spec := "railTells", apart := false, narrowed := true }
def RailTellsUptoSaid : Prop := railTellsUptoRow.holds Try.pinned (OpenSpec.upto railTellsSpec)

/-- 'portcullislaw05.RailBack', WHERE WHAT IT READS IS OF BULK AT MOST 1048576: true; the input reads as it did. -/
def railBackUptoRow : OpenClaim := { program := "ytljjfhllpbcpeaa", sum := "26c1c1af5bf69ea16fff948b9ef702b519467afc04b464c2c55b818809f4beda", func := "portcullis/portcullislaw05.RailBack", spec := "railBack", apart := false, narrowed := true }
def RailBackUptoSaid : Prop := railBackUptoRow.holds Try.pinned (OpenSpec.upto railBackSpec)

/-- 'portcullislaw05.RailKeeps', WHERE WHAT IT READS IS OF BULK AT MOST 1048576: true; the input reads as it did. -/
def railKeepsUptoRow : OpenClaim := { program := "ytljjfhllpbcpeaa", sum := "26c1c1af5bf69ea16fff948b9ef702b519467afc04b464c2c55b818809f4beda", func := "portcullis/portcullislaw05.RailKeeps", spec := "railKeeps", unfollowed := true, recurses := true, apart := false, narrowed := true }
def RailKeepsUptoSaid : Prop := railKeepsUptoRow.holds Try.pinned (OpenSpec.upto railKeepsSpec)

end Rows
end Go.Proofs.Ytljjfhllpbcpeaa

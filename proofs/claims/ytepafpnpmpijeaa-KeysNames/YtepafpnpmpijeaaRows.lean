/-
  No cell of these rows narrows 'for every input' (looked for: loops, veiled, ifaces, maps, wideKeys, modest, calm, conditions, laid).
  DERIVED. THE GIVEN ROWS OF THIS SEAT. 4 by the template 'for every input the law returns true; each argument reads behind the call as it read before'; 0 by the template 'total and deterministic' (their statements: YtepafpnpmpijeaaTotals.lean).
  GIVEN WITH THE SEED: the statements are not yours to turn. If you find one false, say at which input.
  Laid BY PROGRAM, IN A SANDBOX (cutbox-rows.mjs): the forced cells as the released guide's own fill.sh prints them over the translation b7db7a148c98fa35… (all of the seat's roots in one cut). By AI agents, Wed Nov 11 2026. No macro, syntax, notation, axiom, sorry.
-/
import Derived.Test.YtepafpnpmpijeaaChecked
import GoSem.Claim
import GoSem.ClaimJoined
import GoSem.ClaimMapViews
import Derived.JoinedTies
import Derived.KernelRfl
namespace Go.Proofs.Ytepafpnpmpijeaa
/- THE CELL 'sum', in the pinned program and in every row, IS THE sha256 OF THE DUMP (.gsa) THAT YtepafpnpmpijeaaProg.lean LOADS. Nothing in Lean hashes anything: it is a label: what it is worth is what the hold of that sum in a sandbox is worth. -/
noncomputable def Try.pinned : Pinned := { name := "ytepafpnpmpijeaa", sum := "b7db7a148c98fa356bac675a74e6ca939ef03aece1b577a57eeceee1d3e4446d", checked := Try.checked }
namespace Rows
def none {H : Type} : Left H := { results := [], args := [] }

/-- 'portcullislaw12.KeysNames': WHATEVER THE INPUT: true; the input reads as it did. -/
def keysNamesSpec : ChangeSpec := { name := "keysNames", fn := fun _ => fun
  | [] => { results := [.lit (.bool true)], args := [] }
  | _ => none }
def keysNamesRow : OpenClaim := { program := "ytepafpnpmpijeaa", sum := "b7db7a148c98fa356bac675a74e6ca939ef03aece1b577a57eeceee1d3e4446d", func := "portcullis/portcullislaw12.KeysNames", spec := "keysNames", apart := false }
def KeysNamesSaid : Prop := keysNamesRow.holds Try.pinned (OpenSpec.ofChange keysNamesSpec)

/-- ITS FALSE NEIGHBOUR: 'it returns false'. Refute it at one input. -/
def keysNamesWrong : ChangeSpec := { name := "keysNames", fn := fun _ => fun
  | [] => { results := [.lit (.bool false)], args := [] }
  | _ => none }
def KeysNamesWrongFalsely : Prop := keysNamesRow.holds Try.pinned (OpenSpec.ofChange keysNamesWrong)

/-- 'portcullislaw12.KeysTells': WHATEVER THE INPUT: true; the input reads as it did. -/
def keysTellsSpec : ChangeSpec := { name := "keysTells", fn := fun _ => fun
  | [d1, d2] => { results := [.lit (.bool true)], args := [d1, d2] }
  | _ => none }
def keysTellsRow : OpenClaim := { program := "ytepafpnpmpijeaa", sum := "b7db7a148c98fa356bac675a74e6ca939ef03aece1b577a57eeceee1d3e4446d", func := "portcullis/portcullislaw12.KeysTells", spec := "keysTells", apart := false }
def KeysTellsSaid : Prop := keysTellsRow.holds Try.pinned (OpenSpec.ofChange keysTellsSpec)

/-- ITS FALSE NEIGHBOUR: 'it returns false'. Refute it at one input. -/
def keysTellsWrong : ChangeSpec := { name := "keysTells", fn := fun _ => fun
  | [d1, d2] => { results := [.lit (.bool false)], args := [d1, d2] }
  | _ => none }
def KeysTellsWrongFalsely : Prop := keysTellsRow.holds Try.pinned (OpenSpec.ofChange keysTellsWrong)

/-- 'portcullislaw12.KeysFollows': WHATEVER THE INPUT: true; the input reads as it did. -/
def keysFollowsSpec : ChangeSpec := { name := "keysFollows", fn := fun _ => fun
  | [d1, d2, d3] => { results := [.lit (.bool true)], args := [d1, d2, d3] }
  | _ => none }
def keysFollowsRow : OpenClaim := { program := "ytepafpnpmpijeaa", sum := "b7db7a148c98fa356bac675a74e6ca939ef03aece1b577a57eeceee1d3e4446d", func := "portcullis/portcullislaw12.KeysFollows", spec := "keysFollows", apart := false }
def KeysFollowsSaid : Prop := keysFollowsRow.holds Try.pinned (OpenSpec.ofChange keysFollowsSpec)

/-- ITS FALSE NEIGHBOUR: 'it returns false'. Refute it at one input. -/
def keysFollowsWrong : ChangeSpec := { name := "keysFollows", fn := fun _ => fun
  | [d1, d2, d3] => { results := [.lit (.bool false)], args := [d1, d2, d3] }
  | _ => none }
def KeysFollowsWrongFalsely : Prop := keysFollowsRow.holds Try.pinned (OpenSpec.ofChange keysFollowsWrong)

/-- 'portcullislaw12.KeysKeeps': WHATEVER THE INPUT: true; the input reads as it did. -/
def keysKeepsSpec : ChangeSpec := { name := "keysKeeps", fn := fun _ => fun
  | [d1, d2] => { results := [.lit (.bool true)], args := [d1, d2] }
  | _ => none }
def keysKeepsRow : OpenClaim := { program := "ytepafpnpmpijeaa", sum := "b7db7a148c98fa356bac675a74e6ca939ef03aece1b577a57eeceee1d3e4446d", func := "portcullis/portcullislaw12.KeysKeeps", spec := "keysKeeps", apart := false }
def KeysKeepsSaid : Prop := keysKeepsRow.holds Try.pinned (OpenSpec.ofChange keysKeepsSpec)

/-- ITS FALSE NEIGHBOUR: 'it returns false'. Refute it at one input. -/
def keysKeepsWrong : ChangeSpec := { name := "keysKeeps", fn := fun _ => fun
  | [d1, d2] => { results := [.lit (.bool false)], args := [d1, d2] }
  | _ => none }
def KeysKeepsWrongFalsely : Prop := keysKeepsRow.holds Try.pinned (OpenSpec.ofChange keysKeepsWrong)

/- THE SECOND FORM. 'bulk': how many values and letters a reading holds, each counted each time it is reached (what is shared counts as often as it is met; a slice's spare places count too). A statement '..UptoSaid' is the law's where the arguments, and the package variables that the reading takes, are together of bulk at most 1048576: NARROWER than '..Said'. Prove '..Said' where nothing that the law and all that it calls make is longer than what came in: it says more and counts as full. Else prove '..UptoSaid'. A law counts once. -/
mutual
def uptoBulk {H : Type} : DataW H → Nat
  | .lit (.string bytes) => bytes.length + 1
  | .lit _ => 1
  | .nil => 1
  | .ptr d => uptoBulk d + 1
  | .slice elems spare => uptoBulkAll elems + uptoBulkAll spare + 1
  | .agg parts => uptoBulkAll parts + 1
  | .iface _ d => uptoBulk d + 1
  | .map entries => uptoBulkEntries entries + 1
  | .held _ => 1
def uptoBulkAll {H : Type} : List (DataW H) → Nat
  | [] => 0
  | d :: r => uptoBulk d + uptoBulkAll r
def uptoBulkEntries {H : Type} : List (Lit × DataW H) → Nat
  | [] => 0
  | x :: r => uptoBulkEntry x + uptoBulkEntries r
def uptoBulkEntry {H : Type} : Lit × DataW H → Nat
  | (.string bytes, d) => bytes.length + uptoBulk d + 1
  | (_, d) => uptoBulk d + 1
 end
def uptoSmall : (H : Type) → List (DataW H) → Bool := fun _ ds => decide (uptoBulkAll ds ≤ 1048576)
def OpenSpec.upto (s : _root_.Go.ChangeSpec) : _root_.Go.OpenSpec := { _root_.Go.OpenSpec.ofChange s with cond := some uptoSmall }

/-- 'portcullislaw12.KeysNames', WHERE WHAT IT READS IS OF BULK AT MOST 1048576: true; the input reads as it did. -/
def keysNamesUptoRow : OpenClaim := { program := "ytepafpnpmpijeaa", sum := "b7db7a148c98fa356bac675a74e6ca939ef03aece1b577a57eeceee1d3e4446d", func := "portcullis/portcullislaw12.KeysNames", spec := "keysNames", apart := false, narrowed := true }
def KeysNamesUptoSaid : Prop := keysNamesUptoRow.holds Try.pinned (OpenSpec.upto keysNamesSpec)

/-- 'portcullislaw12.KeysTells', WHERE WHAT IT READS IS OF BULK AT MOST 1048576: true; the input reads as it did. -/
def keysTellsUptoRow : OpenClaim := { program := "ytepafpnpmpijeaa", sum := "b7db7a148c98fa356bac675a74e6ca939ef03aece1b577a57eeceee1d3e4446d", func := "portcullis/portcullislaw12.KeysTells", spec := "keysTells", apart := false, narrowed := true }
def KeysTellsUptoSaid : Prop := keysTellsUptoRow.holds Try.pinned (OpenSpec.upto keysTellsSpec)

/-- 'portcullislaw12.KeysFollows', WHERE WHAT IT READS IS OF BULK AT MOST 1048576: true; the input reads as it did. -/
def keysFollowsUptoRow : OpenClaim := { program := "ytepafpnpmpijeaa", sum := "b7db7a148c98fa356bac675a74e6ca939ef03aece1b577a57eeceee1d3e4446d", func := "portcullis/portcullislaw12.KeysFollows", spec := "keysFollows", apart := false, narrowed := true }
def KeysFollowsUptoSaid : Prop := keysFollowsUptoRow.holds Try.pinned (OpenSpec.upto keysFollowsSpec)

/-- 'portcullislaw12.KeysKeeps', WHERE WHAT IT READS IS OF BULK AT MOST 1048576: true; the input reads as it did. -/
def keysKeepsUptoRow : OpenClaim := { program := "ytepafpnpmpijeaa", sum := "b7db7a148c98fa356bac675a74e6ca939ef03aece1b577a57eeceee1d3e4446d", func := "portcullis/portcullislaw12.KeysKeeps", spec := "keysKeeps", apart := false, narrowed := true }
def KeysKeepsUptoSaid : Prop := keysKeepsUptoRow.holds Try.pinned (OpenSpec.upto keysKeepsSpec)

end Rows
end Go.Proofs.Ytepafpnpmpijeaa

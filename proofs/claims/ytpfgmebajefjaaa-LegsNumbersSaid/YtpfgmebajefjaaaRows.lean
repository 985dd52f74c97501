/-
  No cell of these rows narrows 'for every input' (looked for: loops, veiled, ifaces, maps, wideKeys, modest, calm, conditions, laid).
  DERIVED. THE GIVEN ROWS OF THIS SEAT. 4 by the template 'for every input the law returns true; each argument reads behind the call as it read before'; 0 by the template 'total and deterministic' (their statements: YtpfgmebajefjaaaTotals.lean).
  GIVEN WITH THE SEED: the statements are not yours to turn. If you find one false, say at which input.
  Laid BY PROGRAM, IN A SANDBOX (cutbox-rows.mjs): the forced cells as the released guide's own fill.sh prints them over the translation 1db6c6d95b4845f2… (all of the seat's roots in one cut). By AI agents, Wed Nov 11 2026. No macro, syntax, notation, axiom, sorry.
-/
import Derived.Test.YtpfgmebajefjaaaChecked
import GoSem.Claim
import GoSem.ClaimJoined
import GoSem.ClaimMapViews
import Derived.JoinedTies
import Derived.KernelRfl
namespace Go.Proofs.Ytpfgmebajefjaaa
/- THE CELL 'sum', in the pinned program and in every row, IS THE sha256 OF THE DUMP (.gsa) THAT YtpfgmebajefjaaaProg.lean LOADS. Nothing in Lean hashes anything: it is a label: what it is worth is what the hold of that sum in a sandbox is worth. -/
noncomputable def Try.pinned : Pinned := { name := "ytpfgmebajefjaaa", sum := "1db6c6d95b4845f23d4ca7fafa93775afc1f3687b0dd4b113b895592cf1c6877", checked := Try.checked }
namespace Rows
def none {H : Type} : Left H := { results := [], args := [] }

/-- 'cornhilllaw15.LegsNumbers': WHATEVER THE INPUT: true; the input reads as it did. -/
def legsNumbersSpec : ChangeSpec := { name := "legsNumbers", fn := fun _ => fun
  | [] => { results := [.lit (.bool true)], args := [] }
  | _ => none }
def legsNumbersRow : OpenClaim := { program := "ytpfgmebajefjaaa", sum := "1db6c6d95b4845f23d4ca7fafa93775afc1f3687b0dd4b113b895592cf1c6877", func := "cornhill/cornhilllaw15.LegsNumbers", spec := "legsNumbers", apart := false }
def LegsNumbersSaid : Prop := legsNumbersRow.holds Try.pinned (OpenSpec.ofChange legsNumbersSpec)

/-- ITS FALSE NEIGHBOUR: 'it returns false'. Refute it at one input. -/
def legsNumbersWrong : ChangeSpec := { name := "legsNumbers", fn := fun _ => fun
  | [] => { results := [.lit (.bool false)], args := [] }
  | _ => none }
def LegsNumbersWrongFalsely : Prop := legsNumbersRow.holds Try.pinned (OpenSpec.ofChange legsNumbersWrong)

/-- 'cornhilllaw15.LegsTells': WHATEVER THE INPUT: true; the input reads as it did. -/
def legsTellsSpec : ChangeSpec := { name := "legsTells", fn := fun _ => fun
  | [d1, d2, d3, d4] => { results := [.lit (.bool true)], args := [d1, d2, d3, d4] }
  | _ => none }
def legsTellsRow : OpenClaim := { program := "ytpfgmebajefjaaa", sum := "1db6c6d95b4845f23d4ca7fafa93775afc1f3687b0dd4b113b895592cf1c6877", func := "cornhill/cornhilllaw15.LegsTells", spec := "legsTells", apart := false }
def LegsTellsSaid : Prop := legsTellsRow.holds Try.pinned (OpenSpec.ofChange legsTellsSpec)

/-- ITS FALSE NEIGHBOUR: 'it returns false'. Refute it at one input. -/
def legsTellsWrong : ChangeSpec := { name := "legsTells", fn := fun _ => fun
  | [d1, d2, d3, d4] => { results := [.lit (.bool false)], args := [d1, d2, d3, d4] }
  | _ => none }
def LegsTellsWrongFalsely : Prop := legsTellsRow.holds Try.pinned (OpenSpec.ofChange legsTellsWrong)

/-- 'cornhilllaw15.LegsRules': WHATEVER THE INPUT: true; the input reads as it did. -/
def legsRulesSpec : ChangeSpec := { name := "legsRules", fn := fun _ => fun
  | [d1, d2, d3] => { results := [.lit (.bool true)], args := [d1, d2, d3] }
  | _ => none }
def legsRulesRow : OpenClaim := { program := "ytpfgmebajefjaaa", sum := "1db6c6d95b4845f23d4ca7fafa93775afc1f3687b0dd4b113b895592cf1c6877", func := "cornhill/cornhilllaw15.LegsRules", spec := "legsRules", apart := false }
def LegsRulesSaid : Prop := legsRulesRow.holds Try.pinned (OpenSpec.ofChange legsRulesSpec)

/-- ITS FALSE NEIGHBOUR: 'it returns false'. Refute it at one input. -/
def legsRulesWrong : ChangeSpec := { name := "legsRules", fn := fun _ => fun
  | [d1, d2, d3] => { results := [.lit (.bool false)], args := [d1, d2, d3] }
  | _ => none }
def LegsRulesWrongFalsely : Prop := legsRulesRow.holds Try.pinned (OpenSpec.ofChange legsRulesWrong)

/-- 'cornhilllaw15.LegsMirror': WHATEVER THE INPUT: true; the input reads as it did. -/
def legsMirrorSpec : ChangeSpec := { name := "legsMirror", fn := fun _ => fun
  | [d1, d2, d3] => { results := [.lit (.bool true)], args := [d1, d2, d3] }
  | _ => none }
def legsMirrorRow : OpenClaim := { program := "ytpfgmebajefjaaa", sum := "1db6c6d95b4845f23d4ca7fafa93775afc1f3687b0dd4b113b895592cf1c6877", func := "cornhill/cornhilllaw15.LegsMirror", spec := "legsMirror", apart := false }
def LegsMirrorSaid : Prop := legsMirrorRow.holds Try.pinned (OpenSpec.ofChange legsMirrorSpec)

/-- ITS FALSE NEIGHBOUR: 'it returns false'. Refute it at one input. -/
def legsMirrorWrong : ChangeSpec := { name := "legsMirror", fn := fun _ => fun
  | [d1, d2, d3] => { results := [.lit (.bool false)], args := [d1, d2, d3] }
  | _ => none }
def LegsMirrorWrongFalsely : Prop := legsMirrorRow.holds Try.pinned (OpenSpec.ofChange legsMirrorWrong)

/- THE SECOND FORM. 'bulk': how many values and letters a reading holds, each counted each time it is reached (what is shared counts as often as it is met; a slice's spare places count too). A statement '..UptoSaid' is the law's where the arguments, and the package variables that the reading takes, are together of bulk at most 1048576: NARROWER than '..Said'. Prove '..Said' where nothing that the law and all that it calls make is longer than what came in: it says more and counts as full. Else prove '..UptoSaid'. A law counts once. -/
mutual
def uptoBulk {H : Type} : DataW H → Nat
  | .lit (.string bytes) => bytes.length + 1
  | .lit _ => 1
  | .nil => 1
  | .ptr d => uptoBulk d + 1
  | .slice elems spare => uptoBulkAll elems + uptoBulkAll spare + 1
  | .agg parts => uptoBulkAll parts + 1
  | .iface _ d => uptoBulk d + 1
  | .map entries => uptoBulkEntries entries + 1
  | .held _ => 1
def uptoBulkAll {H : Type} : List (DataW H) → Nat
  | [] => 0
  | d :: r => uptoBulk d + uptoBulkAll r
def uptoBulkEntries {H : Type} : List (Lit × DataW H) → Nat
  | [] => 0
  | x :: r => uptoBulkEntry x + uptoBulkEntries r
def uptoBulkEntry {H : Type} : Lit × DataW H → Nat
  | (.string bytes, d) => bytes.length + uptoBulk d + 1
  | (_, d) => uptoBulk d + 1
 end
def uptoSmall : (H : Type) → List (DataW H) → Bool := fun _ ds => decide (uptoBulkAll ds ≤ 1048576)
def OpenSpec.upto (s : _root_.Go.ChangeSpec) : _root_.Go.OpenSpec := { _root_.Go.OpenSpec.ofChange s with cond := some uptoSmall }

/-- 'cornhilllaw15.LegsNumbers', WHERE WHAT IT READS IS OF BULK AT MOST 1048576: true; the input reads as it did. -/
def legsNumbersUptoRow : OpenClaim := { program := "ytpfgmebajefjaaa", sum := "1db6c6d95b4845f23d4ca7fafa93775afc1f3687b0dd4b113b895592cf1c6877", func := "cornhill/cornhilllaw15.LegsNumbers", spec := "legsNumbers", apart := false, narrowed := true }
def LegsNumbersUptoSaid : Prop := legsNumbersUptoRow.holds Try.pinned (OpenSpec.upto legsNumbersSpec)

/-- 'cornhilllaw15.LegsTells', WHERE WHAT IT READS IS OF BULK AT MOST 1048576: true; the input reads as it did. -/
def legsTellsUptoRow : OpenClaim := { program := "ytpfgmebajefjaaa", sum := "1db6c6d95b4845f23d4ca7fafa93775afc1f3687b0dd4b113b895592cf1c6877", func := "cornhill/cornhilllaw15.LegsTells", spec := "legsTells", apart := false, narrowed := true }
def LegsTellsUptoSaid : Prop := legsTellsUptoRow.holds Try.pinned (OpenSpec.upto legsTellsSpec)

/-- 'cornhilllaw15.LegsRules', WHERE WHAT IT READS IS OF BULK AT MOST 1048576: true; the input reads as it did. -/
def legsRulesUptoRow : OpenClaim := { program := "ytpfgmebajefjaaa", sum := "1db6c6d95b4845f23d4ca7fafa93775afc1f3687b0dd4b113b895592cf1c6877", func := "cornhill/cornhilllaw15.LegsRules", spec := "legsRules", apart := false, narrowed := true }
def LegsRulesUptoSaid : Prop := legsRulesUptoRow.holds Try.pinned (OpenSpec.upto legsRulesSpec)

/-- 'cornhilllaw15.LegsMirror', WHERE WHAT IT READS IS OF BULK AT MOST 1048576: true; the input reads as it did. -/
def legsMirrorUptoRow : OpenClaim := { program := "ytpfgmebajefjaaa", sum := "1db6c6d95b4845f23d4ca7fafa93775afc1f3687b0dd4b113b895592cf1c6877", func := "cornhill/cornhilllaw15.LegsMirror", spec := "legsMirror", apart := false, narrowed := true }
def LegsMirrorUptoSaid : Prop := legsMirrorUptoRow.holds Try.pinned (OpenSpec.upto legsMirrorSpec)

end Rows
end Go.Proofs.Ytpfgmebajefjaaa

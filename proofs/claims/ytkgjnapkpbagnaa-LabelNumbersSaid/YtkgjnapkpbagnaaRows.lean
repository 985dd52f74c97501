/-
  No cell of these rows narrows 'for every input' (looked for: loops, veiled, ifaces, maps, wideKeys, modest, calm, conditions, laid).
  DERIVED. THE GIVEN ROWS OF THIS SEAT. 6 by the template 'for every input the law returns true; each argument reads behind the call as it read before'; 0 by the template 'total and deterministic' (their statements: YtkgjnapkpbagnaaTotals.lean).
  GIVEN WITH THE SEED: the statements are not yours to turn. If you find one false, say at which input.
  Laid BY PROGRAM, IN A SANDBOX (cutbox-rows.mjs): the forced cells as the released guide's own fill.sh prints them over the translation 366c279d53016931… (all of the seat's roots in one cut). By AI agents, Wed Nov 11 2026. No macro, syntax, notation, axiom, sorry.
-/
import Derived.Test.YtkgjnapkpbagnaaChecked
import GoSem.Claim
import GoSem.ClaimJoined
import GoSem.ClaimMapViews
import Derived.JoinedTies
import Derived.KernelRfl
namespace Go.Proofs.Ytkgjnapkpbagnaa
/- THE CELL 'sum', in the pinned program and in every row, IS THE sha256 OF THE DUMP (.gsa) THAT YtkgjnapkpbagnaaProg.lean LOADS. Nothing in Lean hashes anything: it is a label: what it is worth is what the hold of that sum in a sandbox is worth. -/
noncomputable def Try.pinned : Pinned := { name := "ytkgjnapkpbagnaa", sum := "366c279d530169314b5ce9dad88dc788f81648196451eb9c08ecda4f2bdeb6d1", checked := Try.checked }
namespace Rows
def none {H : Type} : Left H := { results := [], args := [] }

/-- 'cornhilllaw2.LabelNumbers': WHATEVER THE INPUT: true; the input reads as it did. -/
def labelNumbersSpec : ChangeSpec := { name := "labelNumbers", fn := fun _ => fun
  | [] => { results := [.lit (.bool true)], args := [] }
  | _ => none }
def labelNumbersRow : OpenClaim := { program := "ytkgjnapkpbagnaa", sum := "366c279d530169314b5ce9dad88dc788f81648196451eb9c08ecda4f2bdeb6d1", func := "cornhill/cornhilllaw2.LabelNumbers", spec := "labelNumbers", inPlace := ["internal/abi.NoEscape"], apart := false }
def LabelNumbersSaid : Prop := labelNumbersRow.holds Try.pinned (OpenSpec.ofChange labelNumbersSpec)

/-- ITS FALSE NEIGHBOUR: 'it returns false'. Refute it at one input. -/
def labelNumbersWrong : ChangeSpec := { name := "labelNumbers", fn := fun _ => fun
  | [] => { results := [.lit (.bool false)], args := [] }
  | _ => none }
def LabelNumbersWrongFalsely : Prop := labelNumbersRow.holds Try.pinned (OpenSpec.ofChange labelNumbersWrong)

/-- 'cornhilllaw2.LabelTells': WHATEVER THE INPUT: true; the input reads as it did. -/
def labelTellsSpec : ChangeSpec := { name := "labelTells", fn := fun _ => fun
  | [d1, d2] => { results := [.lit (.bool true)], args := [d1, d2] }
  | _ => none }
def labelTellsRow : OpenClaim := { program := "ytkgjnapkpbagnaa", sum := "366c279d530169314b5ce9dad88dc788f81648196451eb9c08ecda4f2bdeb6d1", func := "cornhill/cornhilllaw2.LabelTells", spec := "labelTells", inPlace := ["internal/abi.NoEscape"], apart := false }
def LabelTellsSaid : Prop := labelTellsRow.holds Try.pinned (OpenSpec.ofChange labelTellsSpec)

/-- ITS FALSE NEIGHBOUR: 'it returns false'. Refute it at one input. -/
def labelTellsWrong : ChangeSpec := { name := "labelTells", fn := fun _ => fun
  | [d1, d2] => { results := [.lit (.bool false)], args := [d1, d2] }
  | _ => none }
def LabelTellsWrongFalsely : Prop := labelTellsRow.holds Try.pinned (OpenSpec.ofChange labelTellsWrong)

/-- 'cornhilllaw2.LabelRules': WHATEVER THE INPUT: true; the input reads as it did. -/
def labelRulesSpec : ChangeSpec := { name := "labelRules", fn := fun _ => fun
  | [d1, d2] => { results := [.lit (.bool true)], args := [d1, d2] }
  | _ => none }
def labelRulesRow : OpenClaim := { program := "ytkgjnapkpbagnaa", sum := "366c279d530169314b5ce9dad88dc788f81648196451eb9c08ecda4f2bdeb6d1", func := "cornhill/cornhilllaw2.LabelRules", spec := "labelRules", inPlace := ["internal/abi.NoEscape"], apart := false }
def LabelRulesSaid : Prop := labelRulesRow.holds Try.pinned (OpenSpec.ofChange labelRulesSpec)

/-- ITS FALSE NEIGHBOUR: 'it returns false'. Refute it at one input. -/
def labelRulesWrong : ChangeSpec := { name := "labelRules", fn := fun _ => fun
  | [d1, d2] => { results := [.lit (.bool false)], args := [d1, d2] }
  | _ => none }
def LabelRulesWrongFalsely : Prop := labelRulesRow.holds Try.pinned (OpenSpec.ofChange labelRulesWrong)

/-- 'cornhilllaw2.LabelJoins': WHATEVER THE INPUT: true; the input reads as it did. -/
def labelJoinsSpec : ChangeSpec := { name := "labelJoins", fn := fun _ => fun
  | [d1, d2] => { results := [.lit (.bool true)], args := [d1, d2] }
  | _ => none }
def labelJoinsRow : OpenClaim := { program := "ytkgjnapkpbagnaa", sum := "366c279d530169314b5ce9dad88dc788f81648196451eb9c08ecda4f2bdeb6d1", func := "cornhill/cornhilllaw2.LabelJoins", spec := "labelJoins", inPlace := ["internal/abi.NoEscape"], apart := false }
def LabelJoinsSaid : Prop := labelJoinsRow.holds Try.pinned (OpenSpec.ofChange labelJoinsSpec)

/-- ITS FALSE NEIGHBOUR: 'it returns false'. Refute it at one input. -/
def labelJoinsWrong : ChangeSpec := { name := "labelJoins", fn := fun _ => fun
  | [d1, d2] => { results := [.lit (.bool false)], args := [d1, d2] }
  | _ => none }
def LabelJoinsWrongFalsely : Prop := labelJoinsRow.holds Try.pinned (OpenSpec.ofChange labelJoinsWrong)

/-- 'cornhilllaw2.LabelCuts': WHATEVER THE INPUT: true; the input reads as it did. -/
def labelCutsSpec : ChangeSpec := { name := "labelCuts", fn := fun _ => fun
  | [d1, d2, d3] => { results := [.lit (.bool true)], args := [d1, d2, d3] }
  | _ => none }
def labelCutsRow : OpenClaim := { program := "ytkgjnapkpbagnaa", sum := "366c279d530169314b5ce9dad88dc788f81648196451eb9c08ecda4f2bdeb6d1", func := "cornhill/cornhilllaw2.LabelCuts", spec := "labelCuts", inPlace := ["internal/abi.NoEscape"], apart := false }
def LabelCutsSaid : Prop := labelCutsRow.holds Try.pinned (OpenSpec.ofChange labelCutsSpec)

/-- ITS FALSE NEIGHBOUR: 'it returns false'. Refute it at one input. -/
def labelCutsWrong : ChangeSpec := { name := "labelCuts", fn := fun _ => fun
  | [d1, d2, d3] => { results := [.lit (.bool false)], args := [d1, d2, d3] }
  | _ => none }
def LabelCutsWrongFalsely : Prop := labelCutsRow.holds Try.pinned (OpenSpec.ofChange labelCutsWrong)

/-- 'cornhilllaw2.LabelPads': WHATEVER THE INPUT: true; the input reads as it did. -/
def labelPadsSpec : ChangeSpec := { name := "labelPads", fn := fun _ => fun
  | [d1, d2] => { results := [.lit (.bool true)], args := [d1, d2] }
  | _ => none }
def labelPadsRow : OpenClaim := { program := "ytkgjnapkpbagnaa", sum := "366c279d530169314b5ce9dad88dc788f81648196451eb9c08ecda4f2bdeb6d1", func := "cornhill/cornhilllaw2.LabelPads", spec := "labelPads", inPlace := ["internal/abi.NoEscape"], apart := false }
def LabelPadsSaid : Prop := labelPadsRow.holds Try.pinned (OpenSpec.ofChange labelPadsSpec)

/-- ITS FALSE NEIGHBOUR: 'it returns false'. Refute it at one input. -/
def labelPadsWrong : ChangeSpec := { name := "labelPads", fn := fun _ => fun
  | [d1, d2] => { results := [.lit (.bool false)], args := [d1, d2] }
  | _ => none }
def LabelPadsWrongFalsely : Prop := labelPadsRow.holds Try.pinned (OpenSpec.ofChange labelPadsWrong)

/- THE SECOND FORM. 'bulk': how many values and letters a reading holds, each counted each time it is reached (what is shared counts as often as it is met; a slice's spare places count too). A statement '..UptoSaid' is the law's where the arguments, and the package variables that the reading takes, are together of bulk at most 1048576: NARROWER than '..Said'. Prove '..Said' where nothing that the law and all that it calls make is longer than what came in: it says more and counts as full. Else prove '..UptoSaid'. A law counts once. -/
mutual
def uptoBulk {H : Type} : DataW H → Nat
  | .lit (.string bytes) => bytes.length + 1
  | .lit _ => 1
  | .nil => 1
  | .ptr d => uptoBulk d + 1
  | .slice elems spare => uptoBulkAll elems + uptoBulkAll spare + 1
  | .agg parts => uptoBulkAll parts + 1
  | .iface _ d => uptoBulk d + 1
  | .map entries => uptoBulkEntries entries + 1
  | .held _ => 1
def uptoBulkAll {H : Type} : List (DataW H) → Nat
  | [] => 0
  | d :: r => uptoBulk d + uptoBulkAll r
def uptoBulkEntries {H : Type} : List (Lit × DataW H) → Nat
  | [] => 0
  | x :: r => uptoBulkEntry x + uptoBulkEntries r
def uptoBulkEntry {H : Type} : Lit × DataW H → Nat
  | (.string bytes, d) => bytes.length + uptoBulk d + 1
  | (_, d) => uptoBulk d + 1
 end
def uptoSmall : (H : Type) → List (DataW H) → Bool := fun _ ds => decide (uptoBulkAll ds ≤ 1048576)
def OpenSpec.upto (s : _root_.Go.ChangeSpec) : _root_.Go.OpenSpec := { _root_.Go.OpenSpec.ofChange s with cond := some uptoSmall }

/-- 'cornhilllaw2.LabelNumbers', WHERE WHAT IT READS IS OF BULK AT MOST 1048576: true; the input reads as it did. -/
def labelNumbersUptoRow : OpenClaim := { program := "ytkgjnapkpbagnaa", sum := "366c279d530169314b5ce9dad88dc788f81648196451eb9c08ecda4f2bdeb6d1", func := "cornhill/cornhilllaw2.LabelNumbers", spec := "labelNumbers", inPlace := ["internal/abi.NoEscape"], apart := false, narrowed := true }
def LabelNumbersUptoSaid : Prop := labelNumbersUptoRow.holds Try.pinned (OpenSpec.upto labelNumbersSpec)

/-- 'cornhilllaw2.LabelTells', WHERE WHAT IT READS IS OF BULK AT MOST 1048576: true; the input reads as it did. -/
def labelTellsUptoRow : OpenClaim := { program := "ytkgjnapkpbagnaa", sum := "366c279d530169314b5ce9dad88dc788f81648196451eb9c08ecda4f2bdeb6d1", func := "cornhill/cornhilllaw2.LabelTells", spec := "labelTells", inPlace := ["internal/abi.NoEscape"], apart := false, narrowed := true }
def LabelTellsUptoSaid : Prop := labelTellsUptoRow.holds Try.pinned (OpenSpec.upto labelTellsSpec)

/-- 'cornhilllaw2.LabelRules', WHERE WHAT IT READS IS OF BULK AT MOST 1048576: true; the input reads as it did. -/
def labelRulesUptoRow : OpenClaim := { program := "ytkgjnapkpbagnaa", sum := "366c279d530169314b5ce9dad88dc788f81648196451eb9c08ecda4f2bdeb6d1", func := "cornhill/cornhilllaw2.LabelRules", spec := "labelRules", inPlace := ["internal/abi.NoEscape"], apart := false, narrowed := true }
def LabelRulesUptoSaid : Prop := labelRulesUptoRow.holds Try.pinned (OpenSpec.upto labelRulesSpec)

/-- 'cornhilllaw2.LabelJoins', WHERE WHAT IT READS IS OF BULK AT MOST 1048576: true; the input reads as it did. -/
def labelJoinsUptoRow : OpenClaim := { program := "ytkgjnapkpbagnaa", sum := "366c279d530169314b5ce9dad88dc788f81648196451eb9c08ecda4f2bdeb6d1", func := "cornhill/cornhilllaw2.LabelJoins", spec := "labelJoins", inPlace := ["internal/abi.NoEscape"], apart := false, narrowed := true }
def LabelJoinsUptoSaid : Prop := labelJoinsUptoRow.holds Try.pinned (OpenSpec.upto labelJoinsSpec)

/-- 'cornhilllaw2.LabelCuts', WHERE WHAT IT READS IS OF BULK AT MOST 1048576: true; the input reads as it did. -/
def labelCutsUptoRow : OpenClaim := { program := "ytkgjnapkpbagnaa", sum := "366c279d530169314b5ce9dad88dc788f81648196451eb9c08ecda4f2bdeb6d1", func := "cornhill/cornhilllaw2.LabelCuts", spec := "labelCuts", inPlace := ["internal/abi.NoEscape"], apart := false, narrowed := true }
def LabelCutsUptoSaid : Prop := labelCutsUptoRow.holds Try.pinned (OpenSpec.upto labelCutsSpec)

/-- 'cornhilllaw2.LabelPads', WHERE WHAT IT READS IS OF BULK AT MOST 1048576: true; the input reads as it did. -/
def labelPadsUptoRow : OpenClaim := { program := "ytkgjnapkpbagnaa", sum := "366c279d530169314b5ce9dad88dc788f81648196451eb9c08ecda4f2bdeb6d1", func := "cornhill/cornhilllaw2.LabelPads", spec := "labelPads", inPlace := ["internal/abi.NoEscape"], apart := false, narrowed := true }
def LabelPadsUptoSaid : Prop := labelPadsUptoRow.holds Try.pinned (OpenSpec.upto labelPadsSpec)

end Rows
end Go.Proofs.Ytkgjnapkpbagnaa

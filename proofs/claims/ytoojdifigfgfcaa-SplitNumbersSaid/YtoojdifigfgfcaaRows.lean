/-
  No cell of these rows narrows 'for every input' (looked for: loops, veiled, ifaces, maps, wideKeys, modest, calm, conditions, laid).
  DERIVED. THE GIVEN ROWS OF THIS SEAT. 4 by the template 'for every input the law returns true; each argument reads behind the call as it read before'; 0 by the template 'total and deterministic' (their statements: YtoojdifigfgfcaaTotals.lean).
  GIVEN WITH THE SEED: the statements are not yours to turn. If you find one false, say at which input.
  Laid BY PROGRAM, IN A SANDBOX (cutbox-rows.mjs): the forced cells as the released guide's own fill.sh prints them over the translation 6b30f45198c58604… (all of the seat's roots in one cut). By AI agents, Wed Nov 11 2026. No macro, syntax, notation, axiom, sorry.
-/
import Derived.Test.YtoojdifigfgfcaaChecked
import GoSem.Claim
import GoSem.ClaimJoined
import GoSem.ClaimMapViews
import Derived.JoinedTies
import Derived.KernelRfl
namespace Go.Proofs.Ytoojdifigfgfcaa
/- THE CELL 'sum', in the pinned program and in every row, IS THE sha256 OF THE DUMP (.gsa) THAT YtoojdifigfgfcaaProg.lean LOADS. Nothing in Lean hashes anything: it is a label: what it is worth is what the hold of that sum in a sandbox is worth. -/
noncomputable def Try.pinned : Pinned := { name := "ytoojdifigfgfcaa", sum := "6b30f45198c5860462c0cb1689922c423d53ee54f894cc36264f2e33fcca468d", checked := Try.checked }
namespace Rows
def none {H : Type} : Left H := { results := [], args := [] }

/-- 'cornhilllaw12.SplitNumbers': WHATEVER THE INPUT: true; the input reads as it did. -/
def splitNumbersSpec : ChangeSpec := { name := "splitNumbers", fn := fun _ => fun
  | [] => { results := [.lit (.bool true)], args := [] }
  | _ => none }
def splitNumbersRow : OpenClaim := { program := "ytoojdifigfgfcaa", sum := "6b30f45198c5860462c0cb1689922c423d53ee54f894cc36264f2e33fcca468d", func := "cornhill/cornhilllaw12.SplitNumbers", spec := "splitNumbers", inPlace := ["math/bits.Add64"], named := ["math/bits.divideError", "math/bits.overflowError"], apart := false }
def SplitNumbersSaid : Prop := splitNumbersRow.holds Try.pinned (OpenSpec.ofChange splitNumbersSpec)

/-- ITS FALSE NEIGHBOUR: 'it returns false'. Refute it at one input. -/
def splitNumbersWrong : ChangeSpec := { name := "splitNumbers", fn := fun _ => fun
  | [] => { results := [.lit (.bool false)], args := [] }
  | _ => none }
def SplitNumbersWrongFalsely : Prop := splitNumbersRow.holds Try.pinned (OpenSpec.ofChange splitNumbersWrong)

/-- 'cornhilllaw12.SplitTells': WHATEVER THE INPUT: true; the input reads as it did. -/
def splitTellsSpec : ChangeSpec := { name := "splitTells", fn := fun _ => fun
  | [d1, d2, d3, d4, d5, d6, d7] => { results := [.lit (.bool true)], args := [d1, d2, d3, d4, d5, d6, d7] }
  | _ => none }
def splitTellsRow : OpenClaim := { program := "ytoojdifigfgfcaa", sum := "6b30f45198c5860462c0cb1689922c423d53ee54f894cc36264f2e33fcca468d", func := "cornhill/cornhilllaw12.SplitTells", spec := "splitTells", inPlace := ["math/bits.Add64"], named := ["math/bits.divideError", "math/bits.overflowError"], apart := false }
def SplitTellsSaid : Prop := splitTellsRow.holds Try.pinned (OpenSpec.ofChange splitTellsSpec)

/-- ITS FALSE NEIGHBOUR: 'it returns false'. Refute it at one input. -/
def splitTellsWrong : ChangeSpec := { name := "splitTells", fn := fun _ => fun
  | [d1, d2, d3, d4, d5, d6, d7] => { results := [.lit (.bool false)], args := [d1, d2, d3, d4, d5, d6, d7] }
  | _ => none }
def SplitTellsWrongFalsely : Prop := splitTellsRow.holds Try.pinned (OpenSpec.ofChange splitTellsWrong)

/-- 'cornhilllaw12.SplitRules': WHATEVER THE INPUT: true; the input reads as it did. -/
def splitRulesSpec : ChangeSpec := { name := "splitRules", fn := fun _ => fun
  | [d1, d2, d3, d4] => { results := [.lit (.bool true)], args := [d1, d2, d3, d4] }
  | _ => none }
def splitRulesRow : OpenClaim := { program := "ytoojdifigfgfcaa", sum := "6b30f45198c5860462c0cb1689922c423d53ee54f894cc36264f2e33fcca468d", func := "cornhill/cornhilllaw12.SplitRules", spec := "splitRules", inPlace := ["math/bits.Add64"], named := ["math/bits.divideError", "math/bits.overflowError"], apart := false }
def SplitRulesSaid : Prop := splitRulesRow.holds Try.pinned (OpenSpec.ofChange splitRulesSpec)

/-- ITS FALSE NEIGHBOUR: 'it returns false'. Refute it at one input. -/
def splitRulesWrong : ChangeSpec := { name := "splitRules", fn := fun _ => fun
  | [d1, d2, d3, d4] => { results := [.lit (.bool false)], args := [d1, d2, d3, d4] }
  | _ => none }
def SplitRulesWrongFalsely : Prop := splitRulesRow.holds Try.pinned (OpenSpec.ofChange splitRulesWrong)

/-- 'cornhilllaw12.SplitEqual': WHATEVER THE INPUT: true; the input reads as it did. -/
def splitEqualSpec : ChangeSpec := { name := "splitEqual", fn := fun _ => fun
  | [d1, d2, d3, d4] => { results := [.lit (.bool true)], args := [d1, d2, d3, d4] }
  | _ => none }
def splitEqualRow : OpenClaim := { program := "ytoojdifigfgfcaa", sum := "6b30f45198c5860462c0cb1689922c423d53ee54f894cc36264f2e33fcca468d", func := "cornhill/cornhilllaw12.SplitEqual", spec := "splitEqual", inPlace := ["math/bits.Add64"], named := ["math/bits.divideError", "math/bits.overflowError"], apart := false }
def SplitEqualSaid : Prop := splitEqualRow.holds Try.pinned (OpenSpec.ofChange splitEqualSpec)

/-- ITS FALSE NEIGHBOUR: 'it returns false'. Refute it at one input. -/
def splitEqualWrong : ChangeSpec := { name := "splitEqual", fn := fun _ => fun
  | [d1, d2, d3, d4] => { results := [.lit (.bool false)], args := [d1, d2, d3, d4] }
  | _ => none }
def SplitEqualWrongFalsely : Prop := splitEqualRow.holds Try.pinned (OpenSpec.ofChange splitEqualWrong)

/- THE SECOND FORM. 'bulk': how many values and letters a reading holds, each counted each time it is reached (what is shared counts as often as it is met; a slice's spare places count too). A statement '..UptoSaid' is the law's where the arguments, and the package variables that the reading takes, are together of bulk at most 1048576: NARROWER than '..Said'. Prove '..Said' where nothing that the law and all that it calls make is longer than what came in: it says more and counts as full. Else prove '..UptoSaid'. A law counts once. -/
mutual
def uptoBulk {H : Type} : DataW H → Nat
  | .lit (.string bytes) => bytes.length + 1
  | .lit _ => 1
  | .nil => 1
  | .ptr d => uptoBulk d + 1
  | .slice elems spare => uptoBulkAll elems + uptoBulkAll spare + 1
  | .agg parts => uptoBulkAll parts + 1
  | .iface _ d => uptoBulk d + 1
  | .map entries => uptoBulkEntries entries + 1
  | .held _ => 1
def uptoBulkAll {H : Type} : List (DataW H) → Nat
  | [] => 0
  | d :: r => uptoBulk d + uptoBulkAll r
def uptoBulkEntries {H : Type} : List (Lit × DataW H) → Nat
  | [] => 0
  | x :: r => uptoBulkEntry x + uptoBulkEntries r
def uptoBulkEntry {H : Type} : Lit × DataW H → Nat
  | (.string bytes, d) => bytes.length + uptoBulk d + 1
  | (_, d) => uptoBulk d + 1
 end
def uptoSmall : (H : Type) → List (DataW H) → Bool := fun _ ds => decide (uptoBulkAll ds ≤ 1048576)
def OpenSpec.upto (s : _root_.Go.ChangeSpec) : _root_.Go.OpenSpec := { _root_.Go.OpenSpec.ofChange s with cond := some uptoSmall }

/-- 'cornhilllaw12.SplitNumbers', WHERE WHAT IT READS IS OF BULK AT MOST 1048576: true; the input reads as it did. -/
def splitNumbersUptoRow : OpenClaim := { program := "ytoojdifigfgfcaa", sum := "6b30f45198c5860462c0cb1689922c423d53ee54f894cc36264f2e33fcca468d", func := "cornhill/cornhilllaw12.SplitNumbers", spec := "splitNumbers", inPlace := ["math/bits.Add64"], named := ["math/bits.divideError", "math/bits.overflowError"], apart := false, narrowed := true }
def SplitNumbersUptoSaid : Prop := splitNumbersUptoRow.holds Try.pinned (OpenSpec.upto splitNumbersSpec)

/-- 'cornhilllaw12.SplitTells', WHERE WHAT IT READS IS OF BULK AT MOST 1048576: true; the input reads as it did. -/
def splitTellsUptoRow : OpenClaim := { program := "ytoojdifigfgfcaa", sum := "6b30f45198c5860462c0cb1689922c423d53ee54f894cc36264f2e33fcca468d", func := "cornhill/cornhilllaw12.SplitTells", spec := "splitTells", inPlace := ["math/bits.Add64"], named := ["math/bits.divideError", "math/bits.overflowError"], apart := false, narrowed := true }
def SplitTellsUptoSaid : Prop := splitTellsUptoRow.holds Try.pinned (OpenSpec.upto splitTellsSpec)

/-- 'cornhilllaw12.SplitRules', WHERE WHAT IT READS IS OF BULK AT MOST 1048576: true; the input reads as it did. -/
def splitRulesUptoRow : OpenClaim := { program := "ytoojdifigfgfcaa", sum := "6b30f45198c5860462c0cb1689922c423d53ee54f894cc36264f2e33fcca468d", func := "cornhill/cornhilllaw12.SplitRules", spec := "splitRules", inPlace := ["math/bits.Add64"], named := ["math/bits.divideError", "math/bits.overflowError"], apart := false, narrowed := true }
def SplitRulesUptoSaid : Prop := splitRulesUptoRow.holds Try.pinned (OpenSpec.upto splitRulesSpec)

/-- 'cornhilllaw12.SplitEqual', WHERE WHAT IT READS IS OF BULK AT MOST 1048576: true; the input reads as it did. -/
def splitEqualUptoRow : OpenClaim := { program := "ytoojdifigfgfcaa", sum := "6b30f45198c5860462c0cb1689922c423d53ee54f894cc36264f2e33fcca468d", func := "cornhill/cornhilllaw12.SplitEqual", spec := "splitEqual", inPlace := ["math/bits.Add64"], named := ["math/bits.divideError", "math/bits.overflowError"], apart := false, narrowed := true }
def SplitEqualUptoSaid : Prop := splitEqualUptoRow.holds Try.pinned (OpenSpec.upto splitEqualSpec)

end Rows
end Go.Proofs.Ytoojdifigfgfcaa

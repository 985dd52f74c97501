/-
  No cell of these rows narrows 'for every input' (looked for: loops, veiled, ifaces, maps, wideKeys, modest, calm, conditions, laid).
  DERIVED. THE GIVEN ROWS OF THIS SEAT. 6 by the template 'for every input the law returns true; each argument reads behind the call as it read before'; 0 by the template 'total and deterministic' (their statements: YtoflnfdkcbpgeaaTotals.lean).
  GIVEN WITH THE SEED: the statements are not yours to turn. If you find one false, say at which input.
  Laid BY PROGRAM, IN A SANDBOX (cutbox-rows.mjs): the forced cells as the released guide's own fill.sh prints them over the translation e3e4df56a1d8bed2… (all of the seat's roots in one cut). By AI agents, Wed Nov 11 2026. No macro, syntax, notation, axiom, sorry.
-/
import Derived.Test.YtoflnfdkcbpgeaaChecked
import GoSem.Claim
import GoSem.ClaimJoined
import GoSem.ClaimMapViews
import Derived.JoinedTies
import Derived.KernelRfl
namespace Go.Proofs.Ytoflnfdkcbpgeaa
/- THE CELL 'sum', in the pinned program and in every row, IS THE sha256 OF THE DUMP (.gsa) THAT YtoflnfdkcbpgeaaProg.lean LOADS. Nothing in Lean hashes anything: it is a label: what it is worth is what the hold of that sum in a sandbox is worth. -/
noncomputable def Try.pinned : Pinned := { name := "ytoflnfdkcbpgeaa", sum := "e3e4df56a1d8bed26df13d16e9761586356ca15f2aa6319d9b4f1eeb3a62086b", checked := Try.checked }
namespace Rows
def none {H : Type} : Left H := { results := [], args := [] }

/-- 'cornhilllaw11.ProrataNumbers': WHATEVER THE INPUT: true; the input reads as it did. -/
def prorataNumbersSpec : ChangeSpec := { name := "prorataNumbers", fn := fun _ => fun
  | [] => { results := [.lit (.bool true)], args := [] }
  | _ => none }
def prorataNumbersRow : OpenClaim := { program := "ytoflnfdkcbpgeaa", sum := "e3e4df56a1d8bed26df13d16e9761586356ca15f2aa6319d9b4f1eeb3a62086b", func := "cornhill/cornhilllaw11.ProrataNumbers", spec := "prorataNumbers", inPlace := ["math/bits.Add64"], named := ["math/bits.divideError", "math/bits.overflowError"], apart := false }
def ProrataNumbersSaid : Prop := prorataNumbersRow.holds Try.pinned (OpenSpec.ofChange prorataNumbersSpec)

/-- ITS FALSE NEIGHBOUR: 'it returns false'. Refute it at one input. -/
def prorataNumbersWrong : ChangeSpec := { name := "prorataNumbers", fn := fun _ => fun
  | [] => { results := [.lit (.bool false)], args := [] }
  | _ => none }
def ProrataNumbersWrongFalsely : Prop := prorataNumbersRow.holds Try.pinned (OpenSpec.ofChange prorataNumbersWrong)

/-- 'cornhilllaw11.ProrataTells': WHATEVER THE INPUT: true; the input reads as it did. -/
def prorataTellsSpec : ChangeSpec := { name := "prorataTells", fn := fun _ => fun
  | [d1, d2, d3, d4, d5, d6, d7] => { results := [.lit (.bool true)], args := [d1, d2, d3, d4, d5, d6, d7] }
  | _ => none }
def prorataTellsRow : OpenClaim := { program := "ytoflnfdkcbpgeaa", sum := "e3e4df56a1d8bed26df13d16e9761586356ca15f2aa6319d9b4f1eeb3a62086b", func := "cornhill/cornhilllaw11.ProrataTells", spec := "prorataTells", inPlace := ["math/bits.Add64"], named := ["math/bits.divideError", "math/bits.overflowError"], apart := false }
def ProrataTellsSaid : Prop := prorataTellsRow.holds Try.pinned (OpenSpec.ofChange prorataTellsSpec)

/-- ITS FALSE NEIGHBOUR: 'it returns false'. Refute it at one input. -/
def prorataTellsWrong : ChangeSpec := { name := "prorataTells", fn := fun _ => fun
  | [d1, d2, d3, d4, d5, d6, d7] => { results := [.lit (.bool false)], args := [d1, d2, d3, d4, d5, d6, d7] }
  | _ => none }
def ProrataTellsWrongFalsely : Prop := prorataTellsRow.holds Try.pinned (OpenSpec.ofChange prorataTellsWrong)

/-- 'cornhilllaw11.ProrataRules': WHATEVER THE INPUT: true; the input reads as it did. -/
def prorataRulesSpec : ChangeSpec := { name := "prorataRules", fn := fun _ => fun
  | [d1, d2, d3, d4, d5] => { results := [.lit (.bool true)], args := [d1, d2, d3, d4, d5] }
  | _ => none }
def prorataRulesRow : OpenClaim := { program := "ytoflnfdkcbpgeaa", sum := "e3e4df56a1d8bed26df13d16e9761586356ca15f2aa6319d9b4f1eeb3a62086b", func := "cornhill/cornhilllaw11.ProrataRules", spec := "prorataRules", inPlace := ["math/bits.Add64"], named := ["math/bits.divideError", "math/bits.overflowError"], apart := false }
def ProrataRulesSaid : Prop := prorataRulesRow.holds Try.pinned (OpenSpec.ofChange prorataRulesSpec)

/-- ITS FALSE NEIGHBOUR: 'it returns false'. Refute it at one input. -/
def prorataRulesWrong : ChangeSpec := { name := "prorataRules", fn := fun _ => fun
  | [d1, d2, d3, d4, d5] => { results := [.lit (.bool false)], args := [d1, d2, d3, d4, d5] }
  | _ => none }
def ProrataRulesWrongFalsely : Prop := prorataRulesRow.holds Try.pinned (OpenSpec.ofChange prorataRulesWrong)

/-- 'cornhilllaw11.ProrataEqual': WHATEVER THE INPUT: true; the input reads as it did. -/
def prorataEqualSpec : ChangeSpec := { name := "prorataEqual", fn := fun _ => fun
  | [d1, d2, d3] => { results := [.lit (.bool true)], args := [d1, d2, d3] }
  | _ => none }
def prorataEqualRow : OpenClaim := { program := "ytoflnfdkcbpgeaa", sum := "e3e4df56a1d8bed26df13d16e9761586356ca15f2aa6319d9b4f1eeb3a62086b", func := "cornhill/cornhilllaw11.ProrataEqual", spec := "prorataEqual", inPlace := ["math/bits.Add64"], named := ["math/bits.divideError", "math/bits.overflowError"], apart := false }
def ProrataEqualSaid : Prop := prorataEqualRow.holds Try.pinned (OpenSpec.ofChange prorataEqualSpec)

/-- ITS FALSE NEIGHBOUR: 'it returns false'. Refute it at one input. -/
def prorataEqualWrong : ChangeSpec := { name := "prorataEqual", fn := fun _ => fun
  | [d1, d2, d3] => { results := [.lit (.bool false)], args := [d1, d2, d3] }
  | _ => none }
def ProrataEqualWrongFalsely : Prop := prorataEqualRow.holds Try.pinned (OpenSpec.ofChange prorataEqualWrong)

/-- 'cornhilllaw11.ProrataScale': WHATEVER THE INPUT: true; the input reads as it did. -/
def prorataScaleSpec : ChangeSpec := { name := "prorataScale", fn := fun _ => fun
  | [d1, d2, d3] => { results := [.lit (.bool true)], args := [d1, d2, d3] }
  | _ => none }
def prorataScaleRow : OpenClaim := { program := "ytoflnfdkcbpgeaa", sum := "e3e4df56a1d8bed26df13d16e9761586356ca15f2aa6319d9b4f1eeb3a62086b", func := "cornhill/cornhilllaw11.ProrataScale", spec := "prorataScale", inPlace := ["math/bits.Add64"], named := ["math/bits.divideError", "math/bits.overflowError"], apart := false }
def ProrataScaleSaid : Prop := prorataScaleRow.holds Try.pinned (OpenSpec.ofChange prorataScaleSpec)

/-- ITS FALSE NEIGHBOUR: 'it returns false'. Refute it at one input. -/
def prorataScaleWrong : ChangeSpec := { name := "prorataScale", fn := fun _ => fun
  | [d1, d2, d3] => { results := [.lit (.bool false)], args := [d1, d2, d3] }
  | _ => none }
def ProrataScaleWrongFalsely : Prop := prorataScaleRow.holds Try.pinned (OpenSpec.ofChange prorataScaleWrong)

/-- 'cornhilllaw11.ProrataTop': WHATEVER THE INPUT: true; the input reads as it did. -/
def prorataTopSpec : ChangeSpec := { name := "prorataTop", fn := fun _ => fun
  | [d1, d2, d3, d4, d5] => { results := [.lit (.bool true)], args := [d1, d2, d3, d4, d5] }
  | _ => none }
def prorataTopRow : OpenClaim := { program := "ytoflnfdkcbpgeaa", sum := "e3e4df56a1d8bed26df13d16e9761586356ca15f2aa6319d9b4f1eeb3a62086b", func := "cornhill/cornhilllaw11.ProrataTop", spec := "prorataTop", inPlace := ["math/bits.Add64"], named := ["math/bits.divideError", "math/bits.overflowError"], apart := false }
def ProrataTopSaid : Prop := prorataTopRow.holds Try.pinned (OpenSpec.ofChange prorataTopSpec)

/-- ITS FALSE NEIGHBOUR: 'it returns false'. Refute it at one input. -/
def prorataTopWrong : ChangeSpec := { name := "prorataTop", fn := fun _ => fun
  | [d1, d2, d3, d4, d5] => { results := [.lit (.bool false)], args := [d1, d2, d3, d4, d5] }
  | _ => none }
def ProrataTopWrongFalsely : Prop := prorataTopRow.holds Try.pinned (OpenSpec.ofChange prorataTopWrong)

/- THE SECOND FORM. 'bulk': how many values and letters a reading holds, each counted each time it is reached (what is shared counts as often as it is met; a slice's spare places count too). A statement '..UptoSaid' is the law's where the arguments, and the package variables that the reading takes, are together of bulk at most 1048576: NARROWER than '..Said'. Prove '..Said' where nothing that the law and all that it calls make is longer than what came in: it says more and counts as full. Else prove '..UptoSaid'. A law counts once. -/
mutual
def uptoBulk {H : Type} : DataW H → Nat
  | .lit (.string bytes) => bytes.length + 1
  | .lit _ => 1
  | .nil => 1
  | .ptr d => uptoBulk d + 1
  | .slice elems spare => uptoBulkAll elems + uptoBulkAll spare + 1
  | .agg parts => uptoBulkAll parts + 1
  | .iface _ d => uptoBulk d + 1
  | .map entries => uptoBulkEntries entries + 1
  | .held _ => 1
def uptoBulkAll {H : Type} : List (DataW H) → Nat
  | [] => 0
  | d :: r => uptoBulk d + uptoBulkAll r
def uptoBulkEntries {H : Type} : List (Lit × DataW H) → Nat
  | [] => 0
  | x :: r => uptoBulkEntry x + uptoBulkEntries r
def uptoBulkEntry {H : Type} : Lit × DataW H → Nat
  | (.string bytes, d) => bytes.length + uptoBulk d + 1
  | (_, d) => uptoBulk d + 1
 end
def uptoSmall : (H : Type) → List (DataW H) → Bool := fun _ ds => decide (uptoBulkAll ds ≤ 1048576)
def OpenSpec.upto (s : _root_.Go.ChangeSpec) : _root_.Go.OpenSpec := { _root_.Go.OpenSpec.ofChange s with cond := some uptoSmall }

/-- 'cornhilllaw11.ProrataNumbers', WHERE WHAT IT READS IS OF BULK AT MOST 1048576: true; the input reads as it did. -/
def prorataNumbersUptoRow : OpenClaim := { program := "ytoflnfdkcbpgeaa", sum := "e3e4df56a1d8bed26df13d16e9761586356ca15f2aa6319d9b4f1eeb3a62086b", func := "cornhill/cornhilllaw11.ProrataNumbers", spec := "prorataNumbers", inPlace := ["math/bits.Add64"], named := ["math/bits.divideError", "math/bits.overflowError"], apart := false, narrowed := true }
def ProrataNumbersUptoSaid : Prop := prorataNumbersUptoRow.holds Try.pinned (OpenSpec.upto prorataNumbersSpec)

/-- 'cornhilllaw11.ProrataTells', WHERE WHAT IT READS IS OF BULK AT MOST 1048576: true; the input reads as it did. -/
def prorataTellsUptoRow : OpenClaim := { program := "ytoflnfdkcbpgeaa", sum := "e3e4df56a1d8bed26df13d16e9761586356ca15f2aa6319d9b4f1eeb3a62086b", func := "cornhill/cornhilllaw11.ProrataTells", spec := "prorataTells", inPlace := ["math/bits.Add64"], named := ["math/bits.divideError", "math/bits.overflowError"], apart := false, narrowed := true }
def ProrataTellsUptoSaid : Prop := prorataTellsUptoRow.holds Try.pinned (OpenSpec.upto prorataTellsSpec)

/-- 'cornhilllaw11.ProrataRules', WHERE WHAT IT READS IS OF BULK AT MOST 1048576: true; the input reads as it did. -/
def prorataRulesUptoRow : OpenClaim := { program := "ytoflnfdkcbpgeaa", sum := "e3e4df56a1d8bed26df13d16e9761586356ca15f2aa6319d9b4f1eeb3a62086b", func := "cornhill/cornhilllaw11.ProrataRules", spec := "prorataRules", inPlace := ["math/bits.Add64"], named := ["math/bits.divideError", "math/bits.overflowError"], apart := false, narrowed := true }
def ProrataRulesUptoSaid : Prop := prorataRulesUptoRow.holds Try.pinned (OpenSpec.upto prorataRulesSpec)

/-- 'cornhilllaw11.ProrataEqual', WHERE WHAT IT READS IS OF BULK AT MOST 1048576: true; the input reads as it did. -/
def prorataEqualUptoRow : OpenClaim := { program := "ytoflnfdkcbpgeaa", sum := "e3e4df56a1d8bed26df13d16e9761586356ca15f2aa6319d9b4f1eeb3a62086b", func := "cornhill/cornhilllaw11.ProrataEqual", spec := "prorataEqual", inPlace := ["math/bits.Add64"], named := ["math/bits.divideError", "math/bits.overflowError"], apart := false, narrowed := true }
def ProrataEqualUptoSaid : Prop := prorataEqualUptoRow.holds Try.pinned (OpenSpec.upto prorataEqualSpec)

/-- 'cornhilllaw11.ProrataScale', WHERE WHAT IT READS IS OF BULK AT MOST 1048576: true; the input reads as it did. -/
def prorataScaleUptoRow : OpenClaim := { program := "ytoflnfdkcbpgeaa", sum := "e3e4df56a1d8bed26df13d16e9761586356ca15f2aa6319d9b4f1eeb3a62086b", func := "cornhill/cornhilllaw11.ProrataScale", spec := "prorataScale", inPlace := ["math/bits.Add64"], named := ["math/bits.divideError", "math/bits.overflowError"], apart := false, narrowed := true }
def ProrataScaleUptoSaid : Prop := prorataScaleUptoRow.holds Try.pinned (OpenSpec.upto prorataScaleSpec)

/-- 'cornhilllaw11.ProrataTop', WHERE WHAT IT READS IS OF BULK AT MOST 1048576: true; the input reads as it did. -/
def prorataTopUptoRow : OpenClaim := { program := "ytoflnfdkcbpgeaa", sum := "e3e4df56a1d8bed26df13d16e9761586356ca15f2aa6319d9b4f1eeb3a62086b", func := "cornhill/cornhilllaw11.ProrataTop", spec := "prorataTop", inPlace := ["math/bits.Add64"], named := ["math/bits.divideError", "math/bits.overflowError"], apart := false, narrowed := true }
def ProrataTopUptoSaid : Prop := prorataTopUptoRow.holds Try.pinned (OpenSpec.upto prorataTopSpec)

end Rows
end Go.Proofs.Ytoflnfdkcbpgeaa

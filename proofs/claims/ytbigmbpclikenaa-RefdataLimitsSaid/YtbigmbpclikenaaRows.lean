/-
  No cell of these rows narrows 'for every input' (looked for: loops, veiled, ifaces, maps, wideKeys, modest, calm, conditions, laid).
  DERIVED. THE GIVEN ROWS OF THIS SEAT. 7 by the template 'for every input the law returns true; each argument reads behind the call as it read before'; 0 by the template 'total and deterministic' (their statements: YtbigmbpclikenaaTotals.lean).
  GIVEN WITH THE SEED: the statements are not yours to turn. If you find one false, say at which input.
  Laid BY PROGRAM, IN A SANDBOX (cutbox-rows.mjs): the forced cells as the released guide's own fill.sh prints them over the translation 1bb7f0eb569685af… (all of the seat's roots in one cut). By AI agents, Wed Nov 11 2026. No macro, syntax, notation, axiom, sorry.
-/
import Derived.Test.YtbigmbpclikenaaChecked
import GoSem.Claim
import GoSem.ClaimJoined
import GoSem.ClaimMapViews
import Derived.JoinedTies
import Derived.KernelRfl
namespace Go.Proofs.Ytbigmbpclikenaa
/- THE CELL 'sum', in the pinned program and in every row, IS THE sha256 OF THE DUMP (.gsa) THAT YtbigmbpclikenaaProg.lean LOADS. Nothing in Lean hashes anything: it is a label: what it is worth is what the hold of that sum in a sandbox is worth. -/
noncomputable def Try.pinned : Pinned := { name := "ytbigmbpclikenaa", sum := "1bb7f0eb569685afb28767a027532b52512366eb8503c20d1c6b32923ba02697", checked := Try.checked }
namespace Rows
def none {H : Type} : Left H := { results := [], args := [] }

/-- 'cornhilllaw5.RefdataNumbers': WHATEVER THE INPUT: true; the input reads as it did. -/
def refdataNumbersSpec : ChangeSpec := { name := "refdataNumbers", fn := fun _ => fun
  | [] => { results := [.lit (.bool true)], args := [] }
  | _ => none }
def refdataNumbersRow : OpenClaim := { program := "ytbigmbpclikenaa", sum := "1bb7f0eb569685afb28767a027532b52512366eb8503c20d1c6b32923ba02697", func := "cornhill/cornhilllaw5.RefdataNumbers", spec := "refdataNumbers", apart := false }
def RefdataNumbersSaid : Prop := refdataNumbersRow.holds Try.pinned (OpenSpec.ofChange refdataNumbersSpec)

/-- ITS FALSE NEIGHBOUR: 'it returns false'. Refute it at one input. -/
def refdataNumbersWrong : ChangeSpec := { name := "refdataNumbers", fn := fun _ => fun
  | [] => { results := [.lit (.bool false)], args := [] }
  | _ => none }
def RefdataNumbersWrongFalsely : Prop := refdataNumbersRow.holds Try.pinned (OpenSpec.ofChange refdataNumbersWrong)

/-- 'cornhilllaw5.RefdataTells': WHATEVER THE INPUT: true; the input reads as it did. -/
def refdataTellsSpec : ChangeSpec := { name := "refdataTells", fn := fun _ => fun
  | [d1, d2, d3, d4, d5, d6, d7, d8] => { results := [.lit (.bool true)], args := [d1, d2, d3, d4, d5, d6, d7, d8] }
  | _ => none }
def refdataTellsRow : OpenClaim := { program := "ytbigmbpclikenaa", sum := "1bb7f0eb569685afb28767a027532b52512366eb8503c20d1c6b32923ba02697", func := "cornhill/cornhilllaw5.RefdataTells", spec := "refdataTells", apart := false }
def RefdataTellsSaid : Prop := refdataTellsRow.holds Try.pinned (OpenSpec.ofChange refdataTellsSpec)

/-- ITS FALSE NEIGHBOUR: 'it returns false'. Refute it at one input. -/
def refdataTellsWrong : ChangeSpec := { name := "refdataTells", fn := fun _ => fun
  | [d1, d2, d3, d4, d5, d6, d7, d8] => { results := [.lit (.bool false)], args := [d1, d2, d3, d4, d5, d6, d7, d8] }
  | _ => none }
def RefdataTellsWrongFalsely : Prop := refdataTellsRow.holds Try.pinned (OpenSpec.ofChange refdataTellsWrong)

/-- 'cornhilllaw5.RefdataRules': WHATEVER THE INPUT: true; the input reads as it did. -/
def refdataRulesSpec : ChangeSpec := { name := "refdataRules", fn := fun _ => fun
  | [d] => { results := [.lit (.bool true)], args := [d] }
  | _ => none }
def refdataRulesRow : OpenClaim := { program := "ytbigmbpclikenaa", sum := "1bb7f0eb569685afb28767a027532b52512366eb8503c20d1c6b32923ba02697", func := "cornhill/cornhilllaw5.RefdataRules", spec := "refdataRules", apart := false }
def RefdataRulesSaid : Prop := refdataRulesRow.holds Try.pinned (OpenSpec.ofChange refdataRulesSpec)

/-- ITS FALSE NEIGHBOUR: 'it returns false'. Refute it at one input. -/
def refdataRulesWrong : ChangeSpec := { name := "refdataRules", fn := fun _ => fun
  | [d] => { results := [.lit (.bool false)], args := [d] }
  | _ => none }
def RefdataRulesWrongFalsely : Prop := refdataRulesRow.holds Try.pinned (OpenSpec.ofChange refdataRulesWrong)

/-- 'cornhilllaw5.RefdataPrices': WHATEVER THE INPUT: true; the input reads as it did. -/
def refdataPricesSpec : ChangeSpec := { name := "refdataPrices", fn := fun _ => fun
  | [d1, d2, d3] => { results := [.lit (.bool true)], args := [d1, d2, d3] }
  | _ => none }
def refdataPricesRow : OpenClaim := { program := "ytbigmbpclikenaa", sum := "1bb7f0eb569685afb28767a027532b52512366eb8503c20d1c6b32923ba02697", func := "cornhill/cornhilllaw5.RefdataPrices", spec := "refdataPrices", apart := false }
def RefdataPricesSaid : Prop := refdataPricesRow.holds Try.pinned (OpenSpec.ofChange refdataPricesSpec)

/-- ITS FALSE NEIGHBOUR: 'it returns false'. Refute it at one input. -/
def refdataPricesWrong : ChangeSpec := { name := "refdataPrices", fn := fun _ => fun
  | [d1, d2, d3] => { results := [.lit (.bool false)], args := [d1, d2, d3] }
  | _ => none }
def RefdataPricesWrongFalsely : Prop := refdataPricesRow.holds Try.pinned (OpenSpec.ofChange refdataPricesWrong)

/-- 'cornhilllaw5.RefdataNames': WHATEVER THE INPUT: true; the input reads as it did. -/
def refdataNamesSpec : ChangeSpec := { name := "refdataNames", fn := fun _ => fun
  | [d1, d2, d3] => { results := [.lit (.bool true)], args := [d1, d2, d3] }
  | _ => none }
def refdataNamesRow : OpenClaim := { program := "ytbigmbpclikenaa", sum := "1bb7f0eb569685afb28767a027532b52512366eb8503c20d1c6b32923ba02697", func := "cornhill/cornhilllaw5.RefdataNames", spec := "refdataNames", apart := false }
def RefdataNamesSaid : Prop := refdataNamesRow.holds Try.pinned (OpenSpec.ofChange refdataNamesSpec)

/-- ITS FALSE NEIGHBOUR: 'it returns false'. Refute it at one input. -/
def refdataNamesWrong : ChangeSpec := { name := "refdataNames", fn := fun _ => fun
  | [d1, d2, d3] => { results := [.lit (.bool false)], args := [d1, d2, d3] }
  | _ => none }
def RefdataNamesWrongFalsely : Prop := refdataNamesRow.holds Try.pinned (OpenSpec.ofChange refdataNamesWrong)

/-- 'cornhilllaw5.RefdataLimits': WHATEVER THE INPUT: true; the input reads as it did. -/
def refdataLimitsSpec : ChangeSpec := { name := "refdataLimits", fn := fun _ => fun
  | [d1, d2, d3, d4] => { results := [.lit (.bool true)], args := [d1, d2, d3, d4] }
  | _ => none }
def refdataLimitsRow : OpenClaim := { program := "ytbigmbpclikenaa", sum := "1bb7f0eb569685afb28767a027532b52512366eb8503c20d1c6b32923ba02697", func := "cornhill/cornhilllaw5.RefdataLimits", spec := "refdataLimits", apart := false }
def RefdataLimitsSaid : Prop := refdataLimitsRow.holds Try.pinned (OpenSpec.ofChange refdataLimitsSpec)

/-- ITS FALSE NEIGHBOUR: 'it returns false'. Refute it at one input. -/
def refdataLimitsWrong : ChangeSpec := { name := "refdataLimits", fn := fun _ => fun
  | [d1, d2, d3, d4] => { results := [.lit (.bool false)], args := [d1, d2, d3, d4] }
  | _ => none }
def RefdataLimitsWrongFalsely : Prop := refdataLimitsRow.holds Try.pinned (OpenSpec.ofChange refdataLimitsWrong)

/-- 'cornhilllaw5.RefdataNone': WHATEVER THE INPUT: true; the input reads as it did. -/
def refdataNoneSpec : ChangeSpec := { name := "refdataNone", fn := fun _ => fun
  | [d1, d2, d3, d4, d5, d6] => { results := [.lit (.bool true)], args := [d1, d2, d3, d4, d5, d6] }
  | _ => none }
def refdataNoneRow : OpenClaim := { program := "ytbigmbpclikenaa", sum := "1bb7f0eb569685afb28767a027532b52512366eb8503c20d1c6b32923ba02697", func := "cornhill/cornhilllaw5.RefdataNone", spec := "refdataNone", apart := false }
def RefdataNoneSaid : Prop := refdataNoneRow.holds Try.pinned (OpenSpec.ofChange refdataNoneSpec)

/-- ITS FALSE NEIGHBOUR: 'it returns false'. Refute it at one input. -/
def refdataNoneWrong : ChangeSpec := { name := "refdataNone", fn := fun _ => fun
  | [d1, d2, d3, d4, d5, d6] => { results := [.lit (.bool false)], args := [d1, d2, d3, d4, d5, d6] }
  | _ => none }
def RefdataNoneWrongFalsely : Prop := refdataNoneRow.holds Try.pinned (OpenSpec.ofChange refdataNoneWrong)

/- THE SECOND FORM. 'bulk': how many values and letters a reading holds, each counted each time it is reached (what is shared counts as often as it is met; a slice's spare places count too). A statement '..UptoSaid' is the law's where the arguments, and the package variables that the reading takes, are together of bulk at most 1048576: NARROWER than '..Said'. Prove '..Said' where nothing that the law and all that it calls make is longer than what came in: it says more and counts as full. Else prove '..UptoSaid'. A law counts once. -/
mutual
def uptoBulk {H : Type} : DataW H → Nat
  | .lit (.string bytes) => bytes.length + 1
  | .lit _ => 1
  | .nil => 1
  | .ptr d => uptoBulk d + 1
  | .slice elems spare => uptoBulkAll elems + uptoBulkAll spare + 1
  | .agg parts => uptoBulkAll parts + 1
  | .iface _ d => uptoBulk d + 1
  | .map entries => uptoBulkEntries entries + 1
  | .held _ => 1
def uptoBulkAll {H : Type} : List (DataW H) → Nat
  | [] => 0
  | d :: r => uptoBulk d + uptoBulkAll r
def uptoBulkEntries {H : Type} : List (Lit × DataW H) → Nat
  | [] => 0
  | x :: r => uptoBulkEntry x + uptoBulkEntries r
def uptoBulkEntry {H : Type} : Lit × DataW H → Nat
  | (.string bytes, d) => bytes.length + uptoBulk d + 1
  | (_, d) => uptoBulk d + 1
 end
def uptoSmall : (H : Type) → List (DataW H) → Bool := fun _ ds => decide (uptoBulkAll ds ≤ 1048576)
def OpenSpec.upto (s : _root_.Go.ChangeSpec) : _root_.Go.OpenSpec := { _root_.Go.OpenSpec.ofChange s with cond := some uptoSmall }

/-- 'cornhilllaw5.RefdataNumbers', WHERE WHAT IT READS IS OF BULK AT MOST 1048576: true; the input reads as it did. -/
def refdataNumbersUptoRow : OpenClaim := { program := "ytbigmbpclikenaa", sum := "1bb7f0eb569685afb28767a027532b52512366eb8503c20d1c6b32923ba02697", func := "cornhill/cornhilllaw5.RefdataNumbers", spec := "refdataNumbers", apart := false, narrowed := true }
def RefdataNumbersUptoSaid : Prop := refdataNumbersUptoRow.holds Try.pinned (OpenSpec.upto refdataNumbersSpec)

/-- 'cornhilllaw5.RefdataTells', WHERE WHAT IT READS IS OF BULK AT MOST 1048576: true; the input reads as it did. -/
def refdataTellsUptoRow : OpenClaim := { program := "ytbigmbpclikenaa", sum := "1bb7f0eb569685afb28767a027532b52512366eb8503c20d1c6b32923ba02697", func := "cornhill/cornhilllaw5.RefdataTells", spec := "refdataTells", apart := false, narrowed := true }
def RefdataTellsUptoSaid : Prop := refdataTellsUptoRow.holds Try.pinned (OpenSpec.upto refdataTellsSpec)

/-- 'cornhilllaw5.RefdataRules', WHERE WHAT IT READS IS OF BULK AT MOST 1048576: true; the input reads as it did. -/
def refdataRulesUptoRow : OpenClaim := { program := "ytbigmbpclikenaa", sum := "1bb7f0eb569685afb28767a027532b52512366eb8503c20d1c6b32923ba02697", func := "cornhill/cornhilllaw5.RefdataRules", spec := "refdataRules", apart := false, narrowed := true }
def RefdataRulesUptoSaid : Prop := refdataRulesUptoRow.holds Try.pinned (OpenSpec.upto refdataRulesSpec)

/-- 'cornhilllaw5.RefdataPrices', WHERE WHAT IT READS IS OF BULK AT MOST 1048576: true; the input reads as it did. -/
def refdataPricesUptoRow : OpenClaim := { program := "ytbigmbpclikenaa", sum := "1bb7f0eb569685afb28767a027532b52512366eb8503c20d1c6b32923ba02697", func := "cornhill/cornhilllaw5.RefdataPrices", spec := "refdataPrices", apart := false, narrowed := true }
def RefdataPricesUptoSaid : Prop := refdataPricesUptoRow.holds Try.pinned (OpenSpec.upto refdataPricesSpec)

/-- 'cornhilllaw5.RefdataNames', WHERE WHAT IT READS IS OF BULK AT MOST 1048576: true; the input reads as it did. -/
def refdataNamesUptoRow : OpenClaim := { program := "ytbigmbpclikenaa", sum := "1bb7f0eb569685afb28767a027532b52512366eb8503c20d1c6b32923ba02697", func := "cornhill/cornhilllaw5.RefdataNames", spec := "refdataNames", apart := false, narrowed := true }
def RefdataNamesUptoSaid : Prop := refdataNamesUptoRow.holds Try.pinned (OpenSpec.upto refdataNamesSpec)

/-- 'cornhilllaw5.RefdataLimits', WHERE WHAT IT READS IS OF BULK AT MOST 1048576: true; the input reads as it did. -/
def refdataLimitsUptoRow : OpenClaim := { program := "ytbigmbpclikenaa", sum := "1bb7f0eb569685afb28767a027532b52512366eb8503c20d1c6b32923ba02697", func := "cornhill/cornhilllaw5.RefdataLimits", spec := "refdataLimits", apart := false, narrowed := true }
def RefdataLimitsUptoSaid : Prop := refdataLimitsUptoRow.holds Try.pinned (OpenSpec.upto refdataLimitsSpec)

/-- 'cornhilllaw5.RefdataNone', WHERE WHAT IT READS IS OF BULK AT MOST 1048576: true; the input reads as it did. -/
def refdataNoneUptoRow : OpenClaim := { program := "ytbigmbpclikenaa", sum := "1bb7f0eb569685afb28767a027532b52512366eb8503c20d1c6b32923ba02697", func := "cornhill/cornhilllaw5.RefdataNone", spec := "refdataNone", apart := false, narrowed := true }
def RefdataNoneUptoSaid : Prop := refdataNoneUptoRow.holds Try.pinned (OpenSpec.upto refdataNoneSpec)

end Rows
end Go.Proofs.Ytbigmbpclikenaa

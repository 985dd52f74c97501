/-
  No cell of these rows narrows 'for every input' (looked for: loops, veiled, ifaces, maps, wideKeys, modest, calm, conditions, laid).
  DERIVED. THE GIVEN ROWS OF THIS SEAT. 7 by the template 'for every input the law returns true; each argument reads behind the call as it read before'; 0 by the template 'total and deterministic' (their statements: YtdeofifidjbolaaTotals.lean).
  GIVEN WITH THE SEED: the statements are not yours to turn. If you find one false, say at which input.
  Laid BY PROGRAM, IN A SANDBOX (cutbox-rows.mjs): the forced cells as the released guide's own fill.sh prints them over the translation 3004e7fc22aad95d… (all of the seat's roots in one cut). By AI agents, Wed Nov 11 2026. No macro, syntax, notation, axiom, sorry.
-/
import Derived.Test.YtdeofifidjbolaaChecked
import GoSem.Claim
import GoSem.ClaimJoined
import GoSem.ClaimMapViews
import Derived.JoinedTies
import Derived.KernelRfl
namespace Go.Proofs.Ytdeofifidjbolaa
/- THE CELL 'sum', in the pinned program and in every row, IS THE sha256 OF THE DUMP (.gsa) THAT YtdeofifidjbolaaProg.lean LOADS. Nothing in Lean hashes anything: it is a label: what it is worth is what the hold of that sum in a sandbox is worth. -/
noncomputable def Try.pinned : Pinned := { name := "ytdeofifidjbolaa", sum := "3004e7fc22aad95d4807ce0fd950030b070c7ccc1e3cc2a57cf05689dcaf68ec", checked := Try.checked }
namespace Rows
def none {H : Type} : Left H := { results := [], args := [] }

/-- 'cornhilllaw14.ImpliedNumbers': WHATEVER THE INPUT: true; the input reads as it did. -/
def impliedNumbersSpec : ChangeSpec := { name := "impliedNumbers", fn := fun _ => fun
  | [] => { results := [.lit (.bool true)], args := [] }
  | _ => none }
def impliedNumbersRow : OpenClaim := { program := "ytdeofifidjbolaa", sum := "3004e7fc22aad95d4807ce0fd950030b070c7ccc1e3cc2a57cf05689dcaf68ec", func := "cornhill/cornhilllaw14.ImpliedNumbers", spec := "impliedNumbers", apart := false }
def ImpliedNumbersSaid : Prop := impliedNumbersRow.holds Try.pinned (OpenSpec.ofChange impliedNumbersSpec)

/-- ITS FALSE NEIGHBOUR: 'it returns false'. Refute it at one input. -/
def impliedNumbersWrong : ChangeSpec := { name := "impliedNumbers", fn := fun _ => fun
  | [] => { results := [.lit (.bool false)], args := [] }
  | _ => none }
def ImpliedNumbersWrongFalsely : Prop := impliedNumbersRow.holds Try.pinned (OpenSpec.ofChange impliedNumbersWrong)

/-- 'cornhilllaw14.ImpliedTells': WHATEVER THE INPUT: true; the input reads as it did. -/
def impliedTellsSpec : ChangeSpec := { name := "impliedTells", fn := fun _ => fun
  | [d1, d2, d3, d4] => { results := [.lit (.bool true)], args := [d1, d2, d3, d4] }
  | _ => none }
def impliedTellsRow : OpenClaim := { program := "ytdeofifidjbolaa", sum := "3004e7fc22aad95d4807ce0fd950030b070c7ccc1e3cc2a57cf05689dcaf68ec", func := "cornhill/cornhilllaw14.ImpliedTells", spec := "impliedTells", apart := false }
def ImpliedTellsSaid : Prop := impliedTellsRow.holds Try.pinned (OpenSpec.ofChange impliedTellsSpec)

/-- ITS FALSE NEIGHBOUR: 'it returns false'. Refute it at one input. -/
def impliedTellsWrong : ChangeSpec := { name := "impliedTells", fn := fun _ => fun
  | [d1, d2, d3, d4] => { results := [.lit (.bool false)], args := [d1, d2, d3, d4] }
  | _ => none }
def ImpliedTellsWrongFalsely : Prop := impliedTellsRow.holds Try.pinned (OpenSpec.ofChange impliedTellsWrong)

/-- 'cornhilllaw14.ImpliedRules': WHATEVER THE INPUT: true; the input reads as it did. -/
def impliedRulesSpec : ChangeSpec := { name := "impliedRules", fn := fun _ => fun
  | [d1, d2, d3] => { results := [.lit (.bool true)], args := [d1, d2, d3] }
  | _ => none }
def impliedRulesRow : OpenClaim := { program := "ytdeofifidjbolaa", sum := "3004e7fc22aad95d4807ce0fd950030b070c7ccc1e3cc2a57cf05689dcaf68ec", func := "cornhill/cornhilllaw14.ImpliedRules", spec := "impliedRules", apart := false }
def ImpliedRulesSaid : Prop := impliedRulesRow.holds Try.pinned (OpenSpec.ofChange impliedRulesSpec)

/-- ITS FALSE NEIGHBOUR: 'it returns false'. Refute it at one input. -/
def impliedRulesWrong : ChangeSpec := { name := "impliedRules", fn := fun _ => fun
  | [d1, d2, d3] => { results := [.lit (.bool false)], args := [d1, d2, d3] }
  | _ => none }
def ImpliedRulesWrongFalsely : Prop := impliedRulesRow.holds Try.pinned (OpenSpec.ofChange impliedRulesWrong)

/-- 'cornhilllaw14.ImpliedBest': WHATEVER THE INPUT: true; the input reads as it did. -/
def impliedBestSpec : ChangeSpec := { name := "impliedBest", fn := fun _ => fun
  | [d1, d2, d3, d4] => { results := [.lit (.bool true)], args := [d1, d2, d3, d4] }
  | _ => none }
def impliedBestRow : OpenClaim := { program := "ytdeofifidjbolaa", sum := "3004e7fc22aad95d4807ce0fd950030b070c7ccc1e3cc2a57cf05689dcaf68ec", func := "cornhill/cornhilllaw14.ImpliedBest", spec := "impliedBest", apart := false }
def ImpliedBestSaid : Prop := impliedBestRow.holds Try.pinned (OpenSpec.ofChange impliedBestSpec)

/-- ITS FALSE NEIGHBOUR: 'it returns false'. Refute it at one input. -/
def impliedBestWrong : ChangeSpec := { name := "impliedBest", fn := fun _ => fun
  | [d1, d2, d3, d4] => { results := [.lit (.bool false)], args := [d1, d2, d3, d4] }
  | _ => none }
def ImpliedBestWrongFalsely : Prop := impliedBestRow.holds Try.pinned (OpenSpec.ofChange impliedBestWrong)

/-- 'cornhilllaw14.ImpliedMirror': WHATEVER THE INPUT: true; the input reads as it did. -/
def impliedMirrorSpec : ChangeSpec := { name := "impliedMirror", fn := fun _ => fun
  | [d1, d2, d3] => { results := [.lit (.bool true)], args := [d1, d2, d3] }
  | _ => none }
def impliedMirrorRow : OpenClaim := { program := "ytdeofifidjbolaa", sum := "3004e7fc22aad95d4807ce0fd950030b070c7ccc1e3cc2a57cf05689dcaf68ec", func := "cornhill/cornhilllaw14.ImpliedMirror", spec := "impliedMirror", apart := false }
def ImpliedMirrorSaid : Prop := impliedMirrorRow.holds Try.pinned (OpenSpec.ofChange impliedMirrorSpec)

/-- ITS FALSE NEIGHBOUR: 'it returns false'. Refute it at one input. -/
def impliedMirrorWrong : ChangeSpec := { name := "impliedMirror", fn := fun _ => fun
  | [d1, d2, d3] => { results := [.lit (.bool false)], args := [d1, d2, d3] }
  | _ => none }
def ImpliedMirrorWrongFalsely : Prop := impliedMirrorRow.holds Try.pinned (OpenSpec.ofChange impliedMirrorWrong)

/-- 'cornhilllaw14.ImpliedFewer': WHATEVER THE INPUT: true; the input reads as it did. -/
def impliedFewerSpec : ChangeSpec := { name := "impliedFewer", fn := fun _ => fun
  | [d1, d2, d3, d4, d5] => { results := [.lit (.bool true)], args := [d1, d2, d3, d4, d5] }
  | _ => none }
def impliedFewerRow : OpenClaim := { program := "ytdeofifidjbolaa", sum := "3004e7fc22aad95d4807ce0fd950030b070c7ccc1e3cc2a57cf05689dcaf68ec", func := "cornhill/cornhilllaw14.ImpliedFewer", spec := "impliedFewer", apart := false }
def ImpliedFewerSaid : Prop := impliedFewerRow.holds Try.pinned (OpenSpec.ofChange impliedFewerSpec)

/-- ITS FALSE NEIGHBOUR: 'it returns false'. Refute it at one input. -/
def impliedFewerWrong : ChangeSpec := { name := "impliedFewer", fn := fun _ => fun
  | [d1, d2, d3, d4, d5] => { results := [.lit (.bool false)], args := [d1, d2, d3, d4, d5] }
  | _ => none }
def ImpliedFewerWrongFalsely : Prop := impliedFewerRow.holds Try.pinned (OpenSpec.ofChange impliedFewerWrong)

/-- 'cornhilllaw14.ImpliedShift': WHATEVER THE INPUT: true; the input reads as it did. -/
def impliedShiftSpec : ChangeSpec := { name := "impliedShift", fn := fun _ => fun
  | [d1, d2, d3, d4] => { results := [.lit (.bool true)], args := [d1, d2, d3, d4] }
  | _ => none }
def impliedShiftRow : OpenClaim := { program := "ytdeofifidjbolaa", sum := "3004e7fc22aad95d4807ce0fd950030b070c7ccc1e3cc2a57cf05689dcaf68ec", func := "cornhill/cornhilllaw14.ImpliedShift", spec := "impliedShift", apart := false }
def ImpliedShiftSaid : Prop := impliedShiftRow.holds Try.pinned (OpenSpec.ofChange impliedShiftSpec)

/-- ITS FALSE NEIGHBOUR: 'it returns false'. Refute it at one input. -/
def impliedShiftWrong : ChangeSpec := { name := "impliedShift", fn := fun _ => fun
  | [d1, d2, d3, d4] => { results := [.lit (.bool false)], args := [d1, d2, d3, d4] }
  | _ => none }
def ImpliedShiftWrongFalsely : Prop := impliedShiftRow.holds Try.pinned (OpenSpec.ofChange impliedShiftWrong)

/- THE SECOND FORM. 'bulk': how many values and letters a reading holds, each counted each time it is reached (what is shared counts as often as it is met; a slice's spare places count too). A statement '..UptoSaid' is the law's where the arguments, and the package variables that the reading takes, are together of bulk at most 1048576: NARROWER than '..Said'. Prove '..Said' where nothing that the law and all that it calls make is longer than what came in: it says more and counts as full. Else prove '..UptoSaid'. A law counts once. -/
mutual
def uptoBulk {H : Type} : DataW H → Nat
  | .lit (.string bytes) => bytes.length + 1
  | .lit _ => 1
  | .nil => 1
  | .ptr d => uptoBulk d + 1
  | .slice elems spare => uptoBulkAll elems + uptoBulkAll spare + 1
  | .agg parts => uptoBulkAll parts + 1
  | .iface _ d => uptoBulk d + 1
  | .map entries => uptoBulkEntries entries + 1
  | .held _ => 1
def uptoBulkAll {H : Type} : List (DataW H) → Nat
  | [] => 0
  | d :: r => uptoBulk d + uptoBulkAll r
def uptoBulkEntries {H : Type} : List (Lit × DataW H) → Nat
  | [] => 0
  | x :: r => uptoBulkEntry x + uptoBulkEntries r
def uptoBulkEntry {H : Type} : Lit × DataW H → Nat
  | (.string bytes, d) => bytes.length + uptoBulk d + 1
  | (_, d) => uptoBulk d + 1
 end
def uptoSmall : (H : Type) → List (DataW H) → Bool := fun _ ds => decide (uptoBulkAll ds ≤ 1048576)
def OpenSpec.upto (s : _root_.Go.ChangeSpec) : _root_.Go.OpenSpec := { _root_.Go.OpenSpec.ofChange s with cond := some uptoSmall }

/-- 'cornhilllaw14.ImpliedNumbers', WHERE WHAT IT READS IS OF BULK AT MOST 1048576: true; the input reads as it did. -/
def impliedNumbersUptoRow : OpenClaim := { program := "ytdeofifidjbolaa", sum := "3004e7fc22aad95d4807ce0fd950030b070c7ccc1e3cc2a57cf05689dcaf68ec", func := "cornhill/cornhilllaw14.ImpliedNumbers", spec := "impliedNumbers", apart := false, narrowed := true }
def ImpliedNumbersUptoSaid : Prop := impliedNumbersUptoRow.holds Try.pinned (OpenSpec.upto impliedNumbersSpec)

/-- 'cornhilllaw14.ImpliedTells', WHERE WHAT IT READS IS OF BULK AT MOST 1048576: true; the input reads as it did. -/
def impliedTellsUptoRow : OpenClaim := { program := "ytdeofifidjbolaa", sum := "3004e7fc22aad95d4807ce0fd950030b070c7ccc1e3cc2a57cf05689dcaf68ec", func := "cornhill/cornhilllaw14.ImpliedTells", spec := "impliedTells", apart := false, narrowed := true }
def ImpliedTellsUptoSaid : Prop := impliedTellsUptoRow.holds Try.pinned (OpenSpec.upto impliedTellsSpec)

/-- 'cornhilllaw14.ImpliedRules', WHERE WHAT IT READS IS OF BULK AT MOST 1048576: true; the input reads as it did. -/
def impliedRulesUptoRow : OpenClaim := { program := "ytdeofifidjbolaa", sum := "3004e7fc22aad95d4807ce0fd950030b070c7ccc1e3cc2a57cf05689dcaf68ec", func := "cornhill/cornhilllaw14.ImpliedRules", spec := "impliedRules", apart := false, narrowed := true }
def ImpliedRulesUptoSaid : Prop := impliedRulesUptoRow.holds Try.pinned (OpenSpec.upto impliedRulesSpec)

/-- 'cornhilllaw14.ImpliedBest', WHERE WHAT IT READS IS OF BULK AT MOST 1048576: true; the input reads as it did. -/
def impliedBestUptoRow : OpenClaim := { program := "ytdeofifidjbolaa", sum := "3004e7fc22aad95d4807ce0fd950030b070c7ccc1e3cc2a57cf05689dcaf68ec", func := "cornhill/cornhilllaw14.ImpliedBest", spec := "impliedBest", apart := false, narrowed := true }
def ImpliedBestUptoSaid : Prop := impliedBestUptoRow.holds Try.pinned (OpenSpec.upto impliedBestSpec)

/-- 'cornhilllaw14.ImpliedMirror', WHERE WHAT IT READS IS OF BULK AT MOST 1048576: true; the input reads as it did. -/
def impliedMirrorUptoRow : OpenClaim := { program := "ytdeofifidjbolaa", sum := "3004e7fc22aad95d4807ce0fd950030b070c7ccc1e3cc2a57cf05689dcaf68ec", func := "cornhill/cornhilllaw14.ImpliedMirror", spec := "impliedMirror", apart := false, narrowed := true }
def ImpliedMirrorUptoSaid : Prop := impliedMirrorUptoRow.holds Try.pinned (OpenSpec.upto impliedMirrorSpec)

/-- 'cornhilllaw14.ImpliedFewer', WHERE WHAT IT READS IS OF BULK AT MOST 1048576: true; the input reads as it did. -/
def impliedFewerUptoRow : OpenClaim := { program := "ytdeofifidjbolaa", sum := "3004e7fc22aad95d4807ce0fd950030b070c7ccc1e3cc2a57cf05689dcaf68ec", func := "cornhill/cornhilllaw14.ImpliedFewer", spec := "impliedFewer", apart := false, narrowed := true }
def ImpliedFewerUptoSaid : Prop := impliedFewerUptoRow.holds Try.pinned (OpenSpec.upto impliedFewerSpec)

/-- 'cornhilllaw14.ImpliedShift', WHERE WHAT IT READS IS OF BULK AT MOST 1048576: true; the input reads as it did. -/
def impliedShiftUptoRow : OpenClaim := { program := "ytdeofifidjbolaa", sum := "3004e7fc22aad95d4807ce0fd950030b070c7ccc1e3cc2a57cf05689dcaf68ec", func := "cornhill/cornhilllaw14.ImpliedShift", spec := "impliedShift", apart := false, narrowed := true }
def ImpliedShiftUptoSaid : Prop := impliedShiftUptoRow.holds Try.pinned (OpenSpec.upto impliedShiftSpec)

end Rows
end Go.Proofs.Ytdeofifidjbolaa

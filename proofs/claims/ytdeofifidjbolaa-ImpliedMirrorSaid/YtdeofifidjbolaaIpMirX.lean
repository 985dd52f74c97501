/-
  The region that compares two mirrored quotes: its operations, and that they may be taken in the text's order.
-/
import Derived.Test.YtdeofifidjbolaaIpMirP
import Derived.Deep.QuietTactic
import Derived.BigQuiet
namespace Go.Proofs.Ytdeofifidjbolaa
open Go.RowKit
set_option linter.unusedVariables false
set_option linter.unusedSimpArgs false

def regsOf : Code → List (Array Oper)
  | .region _ ops _ => [ops]
  | .loop c => regsOf c
  | .seq a b => regsOf a ++ regsOf b
  | .block _ c => regsOf c
  | .scope c => regsOf c
  | .cond _ a b => regsOf a ++ regsOf b
  | _ => []
noncomputable def mirOps : Array Oper := ((regsOf (Try.f7.body.getD .skip)).filter (fun l => decide (80 < l.size)))[0]?.getD #[]
theorem mir_size : mirOps.size = 95 := by kernel_rfl
/-- Which operations are done, j steps on. -/
def adv (k : Nat) (listed : Array Bool) : Nat → Array Bool
  | 0 => listed
  | j + 1 => adv (k + 1) (listed.setIfInBounds k true) j
def lexAt (ops : Array Oper) (k : Nat) (listed : Array Bool) (j : Nat) : Bool := (Region.ready .any ops (adv k listed j)).contains (k + j) && Region.free .any ops (adv k listed j) (k + j)
theorem lex_all (ops : Array Oper) : ∀ (fuel k : Nat) (listed : Array Bool), (∀ j, j < fuel → lexAt ops k listed j = true) → (Region.ready .any ops (adv k listed fuel)).isEmpty = true → Region.lexFrom .any ops fuel k listed = true := by
  intro fuel
  induction fuel with
  | zero => intro k listed _ h; exact h
  | succ f ih =>
    intro k listed h he
    have h0 := h 0 (Nat.succ_pos f)
    rw [Region.lexFrom]
    have h0' : ((Region.ready .any ops listed).contains k && Region.free .any ops listed k) = true := h0
    rw [h0', Bool.true_and]
    refine ih (k + 1) _ (fun j hj => ?_) he
    have := h (j + 1) (by omega)
    unfold lexAt at this ⊢
    rw [show k + 1 + j = k + (j + 1) by omega]
    exact this
set_option maxRecDepth 100000 in
theorem mir_a : (List.range 32).all (lexAt mirOps 0 (Array.replicate 95 false)) = true := by kernel_rfl
set_option maxRecDepth 100000 in
theorem mir_b : (List.range 32).all (fun j => lexAt mirOps 0 (Array.replicate 95 false) (32 + j)) = true := by kernel_rfl
set_option maxRecDepth 100000 in
theorem mir_c : (List.range 31).all (fun j => lexAt mirOps 0 (Array.replicate 95 false) (64 + j)) = true := by kernel_rfl
set_option maxRecDepth 100000 in
theorem mir_d : (Region.ready .any mirOps (adv 0 (Array.replicate 95 false) 95)).isEmpty = true := by kernel_rfl
theorem mir_s : Region.noSelect mirOps = true := by kernel_rfl
theorem mir_lex : Region.lexB .any mirOps = true := by
  unfold Region.lexB
  rw [mir_size, mir_s, Bool.true_and]
  refine lex_all mirOps 95 0 _ (fun j hj => ?_) mir_d
  rcases Nat.lt_or_ge j 32 with h | h
  · exact List.all_eq_true.1 mir_a j (List.mem_range.2 h)
  · rcases Nat.lt_or_ge j 64 with h2 | h2
    · have := List.all_eq_true.1 mir_b (j - 32) (List.mem_range.2 (by omega))
      rwa [show 32 + (j - 32) = j by omega] at this
    · have := List.all_eq_true.1 mir_c (j - 64) (List.mem_range.2 (by omega))
      rwa [show 64 + (j - 64) = j by omega] at this
end Go.Proofs.Ytdeofifidjbolaa

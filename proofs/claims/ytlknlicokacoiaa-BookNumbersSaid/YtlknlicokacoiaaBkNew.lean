/-
  Contract: New, of book.
-/
import Derived.Test.YtlknlicokacoiaaBkAddP
import Derived.Test.YtlknlicokacoiaaLvOpen
namespace Go.Proofs.Ytlknlicokacoiaa
open Go.RowKit
set_option linter.unusedVariables false
set_option linter.unusedSimpArgs false

def newC : Cs := ⟨newS 250, fun _ => [], List.replicate 250 (0, 0), []⟩
theorem newC_inv : CInv noEx newC ∧ newC.abs = [] := by
  have hq : ∀ q, lq (newS 250) q = [] := fun q => rfl
  refine ⟨?_, rfl⟩
  constructor
  · exact newS_ok 250
  · show (List.replicate 250 false).length = 250
    rw [List.length_replicate]
  · exact List.length_replicate
  · exact List.Perm.refl _
  · intro q hq; cases hq
  · intro s r hr; cases hr
  · intro _ _ _; rfl
  · intro s r e hr; cases hr
  · intro s; exact List.Pairwise.nil
  · intro s r hr; cases hr
  · exact List.nodup_nil
  · intro s x hx; cases hx
def newCells (a : Nat) : Array Value := ((.pointer (some ⟨a, 0, none⟩) : Value) :: (rowsG fT.f (List.replicate 250 ((0, 0) : Int × Int)) ++ [.slice none 0 0, .slice none 0 0, .slice none 0 0, .slice none 0 0])).toArray
theorem build_book (a : Nat) : ∀ W : World, (Instr.build 65 #[(0, .pointer (some ⟨a, 0, none⟩))]).run Try.prog W = .ok (.agg (newCells a)) W := fun W => by kernel_rfl
def NewPost (w : World) (e : Ending) (w' : World) : Prop := ∃ b a F V vs c, e = .returned (.pointer (some ⟨b, 0, none⟩)) ∧ Wb w.heap.size b a F V vs c w' ∧ CInv noEx c ∧ c.abs = [] ∧ c.st.Q.length ≤ 250 ∧ Below w.heap.size w w'
set_option maxRecDepth 100000 in
set_option maxHeartbeats 1000000 in
theorem BookNew_any (w : World) : Calls Try.prog 10 #[] w (NewPost w) := by
  have HN := Lib.hid (New_yes 250 w (by omega) (by omega))
  go_enter Try.func10, Try.ntmps10
  go_wp2_with fail
  refine HN.out.mono ?_
  rintro e w1 ⟨a, F, rfl, a1, b1⟩
  have hbb := build_book a
  obtain ⟨X, eX⟩ : ∃ X, newCells a = X := ⟨_, rfl⟩
  rw [eX] at hbb
  have hal : a < w1.heap.size := by obtain ⟨s, q, L, E, rfl, hA, hI, hB⟩ := a1; exact hA.lt (.inl rfl)
  have fin : Hid (∀ T, T = 65 → NewPost w (.returned (.pointer (some ⟨w1.heap.size, 0, none⟩))) (w1.alloc (.cells X T))) := Lib.hid (fun T eT => by
    subst eT
    have b2 : Below w1.heap.size w1 (w1.alloc (.cells X 65)) := (Below.refl _ w1).alloc (Nat.le_refl _) _
    refine ⟨w1.heap.size, a, F, fun _ => .slice none 0 0, .slice none 0 0, newC, rfl, ⟨a1.below b2, ⟨⟨X, .slice none 0 0, heap_alloc_new w1 _, by rw [← eX]; rfl⟩, List.length_replicate, fun s hs => own_nil _ _ _, own_nil _ _ _, fun s hs k hk => (by cases hk), fun k hk => (by cases hk), fun k hk => (by cases hk)⟩, fun k hk e => ?_, fun k hk => ?_⟩, newC_inv.1, newC_inv.2, by show ([] : List (List En)).length ≤ 250; simp, b1.trans (b2.mono b1.size)⟩
    · rcases e with e | e | e | e
      · have := (a1.lt hk).2; omega
      · cases e
      · cases e
      · cases e
    · rcases hk with e | e | e | e
      · rw [e]; exact b1.size
      · cases e
      · cases e
      · cases e)
  replace a1 := Lib.hid a1
  replace b1 := Lib.hid b1
  replace eX := Lib.hid eX
  go_wp2_with fail
  go_ret
  exact fin.out _ rfl
end Go.Proofs.Ytlknlicokacoiaa

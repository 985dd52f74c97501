/-
  Contract: put, of the law's own package: a part is written by both.
-/
import Derived.Test.YtdbaphmhfoajgaaWriter
import Derived.Test.YtdbaphmhfoajgaaRefParts
namespace Go.Proofs.Ytdbaphmhfoajgaa
open Go.RowKit
set_option linter.unusedVariables false
set_option linter.unusedSimpArgs false

/-- A text as it is written: its length and its bytes, no more than 255. -/
def textL (S : List UInt8) : List UInt8 := [UInt8.ofNat (S.take 255).length] ++ S.take 255
theorem textL_cut (S : List UInt8) : textL (S.take 300) = textL S := by
  unfold textL; rw [List.take_take]; rfl
theorem textL_len (S : List UInt8) : (textL S).length ≤ 256 := by
  unfold textL; rw [List.length_append, List.length_take]; simp; omega
/-- A part as it is written. -/
def partL (kind N : Int) (S : List UInt8) : List UInt8 := if kind = 1 then [byteOf N] else if kind = 2 then longL N else textL S
theorem partL_len (kind N : Int) (S : List UInt8) : (partL kind N S).length ≤ 256 := by
  unfold partL
  split
  · simp
  · split
    · rw [longL_len]; omega
    · exact textL_len S

/-- The document's row holds the same bytes as the writer, elsewhere. -/
structure Both (c B : Nat) (v r : Value) (xs : List UInt8) (w : World) : Prop where
  own : Wr c B v xs w
  doc : RB w B r xs
  far : ∀ k, r.ownBlock = some k → k ≠ c ∧ v.ownBlock ≠ some k
/-- Behind a writer's call the document's row reads as before, and a new one lies elsewhere. -/
theorem both_next {c B : Nat} {v v' r r' : Value} {xs ys : List UInt8} {w w1 w2 : World} (h : Both c B v r xs w) (hw : Wr c B v' ys w1) (ho : Only (wp c v) w w1) (hf : From w v v') (hr : RB w2 w1.heap.size r' ys) (hb : Below w1.heap.size w1 w2) :
    Both c B v' r' ys w2 ∧ Only (wp c v) w w2 ∧ From w v v' := by
  have o2 := only_below hb
  refine ⟨⟨hw.only o2 (fun e => e) (fun _ _ e => e), hr.base (Nat.le_trans h.own.size ho.size), fun k hk => ?_⟩, ho.step o2 (fun _ _ e => e.elim), hf⟩
  have h1 := (hr.blk hk).1
  refine ⟨by have := hw.at'.lt; omega, fun e => ?_⟩
  have := (hw.row.blk e).2
  omega

theorem Both.only {p : Nat → Prop} {c B : Nat} {v r : Value} {xs : List UInt8} {w w' : World} (h : Both c B v r xs w) (ho : Only p w w') (hc : ¬ p c) (hv : ∀ k, v.ownBlock = some k → ¬ p k) (hr : ∀ k, r.ownBlock = some k → ¬ p k) : Both c B v r xs w' :=
  ⟨h.own.only ho hc hv, h.doc.only ho hr, h.far⟩
theorem alloc_only (w : World) (o : Obj) : Only (fun _ => False) w (w.alloc o) := only_below ((Below.refl _ w).alloc (Nat.le_refl _) o)
theorem Both.alloc {c B : Nat} {v r : Value} {xs : List UInt8} {w : World} (h : Both c B v r xs w) (o : Obj) : Both c B v r xs (w.alloc o) :=
  h.only (alloc_only w o) (fun e => e) (fun _ _ e => e) (fun _ _ e => e)
/-- The part's own block is none that the writer turns. -/
theorem part_kept {c B : Nat} {v : Value} {xs : List UInt8} {w w1 : World} {o : Obj} (h : Wr c B v xs w) (ho : Only (wp c v) (w.alloc o) w1) {j : Nat} {u : Value} (hc : (w.alloc o).cell? ⟨w.heap.size, j, none⟩ = some u) : w1.cell? ⟨w.heap.size, j, none⟩ = some u := by
  refine ho.cell hc ?_
  rintro (e | e)
  · have := h.at'.lt
    have e : w.heap.size = c := e
    omega
  · have e : some w.heap.size = v.ownBlock := e
    have := (h.row.blk e.symm).2
    omega
/-- The document's slice is none that the writer turns. -/
theorem doc_kept {c B : Nat} {v : Value} {A : Option Addr} {len cap : Nat} {xs : List UInt8} {w w1 : World} {o : Obj} (h : Both c B v (.slice A len cap) xs w) (H : HB w A len xs) (ho : Only (wp c v) (w.alloc o) w1) : HB w1 A len xs := by
  refine (H.alloc o).only ho ?_
  rintro b off sp rfl (e | e)
  · exact (h.far b rfl).1 e
  · exact (h.far b rfl).2 e.symm
theorem put_fin {c B : Nat} {v v1 r r2 : Value} {xs ys : List UInt8} {w w1 w2 : World} {o : Obj} (h : Both c B v r xs w) (W1 : Wr c B v1 ys w1) (O1 : Only (wp c v) (w.alloc o) w1) (F1 : From (w.alloc o) v v1) (h2 : RB w2 w1.heap.size r2 ys) (b2 : Below w1.heap.size w1 w2) :
    Both c B v1 r2 ys w2 ∧ Only (wp c v) w w2 ∧ From w v v1 := by
  obtain ⟨x, y, z⟩ := both_next (h.alloc o) W1 O1 F1 h2 b2
  refine ⟨x, ((alloc_only w o).mono (fun _ _ e => e.elim)).step y (fun i _ e => e), fun k hk => ?_⟩
  rcases z k hk with e | e
  · exact .inl e
  · right
    have : (w.alloc o).heap.size = w.heap.size + 1 := by simp
    omega

end Go.Proofs.Ytdbaphmhfoajgaa

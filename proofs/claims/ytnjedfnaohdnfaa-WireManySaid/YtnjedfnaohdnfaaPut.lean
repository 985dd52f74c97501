/-
  Contract: put, of the law's own package: a part is written by both.
-/
import Derived.Test.YtnjedfnaohdnfaaWriter
import Derived.Test.YtnjedfnaohdnfaaRefParts
namespace Go.Proofs.Ytnjedfnaohdnfaa
open Go.RowKit
set_option linter.unusedVariables false
set_option linter.unusedSimpArgs false

/-- A text as it is written: its length and its bytes, no more than 255. -/
def textL (S : List UInt8) : List UInt8 := [UInt8.ofNat (S.take 255).length] ++ S.take 255
theorem textL_cut (S : List UInt8) : textL (S.take 300) = textL S := by
  unfold textL; rw [List.take_take]; rfl
theorem textL_len (S : List UInt8) : (textL S).length ≤ 256 := by
  unfold textL; rw [List.length_append, List.length_take]; simp; omega
/-- A part as it is written. -/
def partL (kind N : Int) (S : List UInt8) : List UInt8 := if kind = 1 then [byteOf N] else if kind = 2 then longL N else textL S
theorem partL_len (kind N : Int) (S : List UInt8) : (partL kind N S).length ≤ 256 := by
  unfold partL
  split
  · simp
  · split
    · rw [longL_len]; omega
    · exact textL_len S

/-- The document's row holds the same bytes as the writer, elsewhere. -/
structure Both (c B : Nat) (v r : Value) (xs : List UInt8) (w : World) : Prop where
  own : Wr c B v xs w
  doc : RB w B r xs
  far : ∀ k, r.ownBlock = some k → k ≠ c ∧ v.ownBlock ≠ some k
/-- Behind a writer's call the document's row reads as before, and a new one lies elsewhere. -/
theorem both_next {c B : Nat} {v v' r r' : Value} {xs ys : List UInt8} {w w1 w2 : World} (h : Both c B v r xs w) (hw : Wr c B v' ys w1) (ho : Only (wp c v) w w1) (hf : From w v v') (hr : RB w2 w1.heap.size r' ys) (hb : Below w1.heap.size w1 w2) :
    Both c B v' r' ys w2 ∧ Only (wp c v) w w2 ∧ From w v v' := by
  have o2 := only_below hb
  refine ⟨⟨hw.only o2 (fun e => e) (fun _ _ e => e), hr.base (Nat.le_trans h.own.size ho.size), fun k hk => ?_⟩, ho.step o2 (fun _ _ e => e.elim), hf⟩
  have h1 := (hr.blk hk).1
  refine ⟨by have := hw.at'.lt; omega, fun e => ?_⟩
  have := (hw.row.blk e).2
  omega

theorem Both.only {p : Nat → Prop} {c B : Nat} {v r : Value} {xs : List UInt8} {w w' : World} (h : Both c B v r xs w) (ho : Only p w w') (hc : ¬ p c) (hv : ∀ k, v.ownBlock = some k → ¬ p k) (hr : ∀ k, r.ownBlock = some k → ¬ p k) : Both c B v r xs w' :=
  ⟨h.own.only ho hc hv, h.doc.only ho hr, h.far⟩
theorem alloc_only (w : World) (o : Obj) : Only (fun _ => False) w (w.alloc o) := only_below ((Below.refl _ w).alloc (Nat.le_refl _) o)
theorem Both.alloc {c B : Nat} {v r : Value} {xs : List UInt8} {w : World} (h : Both c B v r xs w) (o : Obj) : Both c B v r xs (w.alloc o) :=
  h.only (alloc_only w o) (fun e => e) (fun _ _ e => e) (fun _ _ e => e)
/-- The part's own block is none that the writer turns. -/
theorem part_kept {c B : Nat} {v : Value} {xs : List UInt8} {w w1 : World} {o : Obj} (h : Wr c B v xs w) (ho : Only (wp c v) (w.alloc o) w1) {j : Nat} {u : Value} (hc : (w.alloc o).cell? ⟨w.heap.size, j, none⟩ = some u) : w1.cell? ⟨w.heap.size, j, none⟩ = some u := by
  refine ho.cell hc ?_
  rintro (e | e)
  · have := h.at'.lt
    have e : w.heap.size = c := e
    omega
  · have e : some w.heap.size = v.ownBlock := e
    have := (h.row.blk e.symm).2
    omega
/-- The document's slice is none that the writer turns. -/
theorem doc_kept {c B : Nat} {v : Value} {A : Option Addr} {len cap : Nat} {xs : List UInt8} {w w1 : World} {o : Obj} (h : Both c B v (.slice A len cap) xs w) (H : HB w A len xs) (ho : Only (wp c v) (w.alloc o) w1) : HB w1 A len xs := by
  refine (H.alloc o).only ho ?_
  rintro b off sp rfl (e | e)
  · exact (h.far b rfl).1 e
  · exact (h.far b rfl).2 e.symm
theorem put_fin {c B : Nat} {v v1 r r2 : Value} {xs ys : List UInt8} {w w1 w2 : World} {o : Obj} (h : Both c B v r xs w) (W1 : Wr c B v1 ys w1) (O1 : Only (wp c v) (w.alloc o) w1) (F1 : From (w.alloc o) v v1) (h2 : RB w2 w1.heap.size r2 ys) (b2 : Below w1.heap.size w1 w2) :
    Both c B v1 r2 ys w2 ∧ Only (wp c v) w w2 ∧ From w v v1 := by
  obtain ⟨x, y, z⟩ := both_next (h.alloc o) W1 O1 F1 h2 b2
  refine ⟨x, ((alloc_only w o).mono (fun _ _ e => e.elim)).step y (fun i _ e => e), fun k hk => ?_⟩
  rcases z k hk with e | e
  · exact .inl e
  · right
    have : (w.alloc o).heap.size = w.heap.size + 1 := by simp
    omega

set_option maxRecDepth 100000 in
set_option maxHeartbeats 1000000 in
theorem Put_one (c B : Nat) (v r : Value) (xs S : List UInt8) (N : Int) (w : World) (h : Hid (Both c B v r xs w)) (hl : xs.length ≤ 900000) (n1 : -9223372036854775808 ≤ N) (n2 : N ≤ 9223372036854775807) :
    Calls Try.prog 15 #[.pointer (some ⟨c, 0, none⟩), r, .agg #[.int .i64 1, .int .i64 N, .string (str S)]] w fun e w' => ∃ v' r', e = .returned r' ∧ Both c B v' r' (xs ++ [byteOf N]) w' ∧ Only (wp c v) w w' ∧ From w v v' := by
  obtain ⟨A, cap, er, H, hA, _, _⟩ := h.out.doc.holds
  have hl1 := Lib.hid hl
  obtain ⟨len, el⟩ : ∃ len, xs.length = len := ⟨_, rfl⟩
  rw [el] at er H hl
  subst er
  have H := Lib.hid H
  have hA := Lib.hid hA
  clear el
  go_enter Try.func15, Try.ntmps15
  go_wp2_with fail
  refine (Head_any S 300 _ (by omega)).mono ?_
  rintro e w0 ⟨rfl, rfl⟩
  have B0 := Lib.hid (h.out.alloc (Obj.cells #[Value.int IntKind.i64 1, Value.int IntKind.i64 N, Value.string (str S)] 42))
  have k0 : (w.alloc (Obj.cells #[Value.int IntKind.i64 1, Value.int IntKind.i64 N, Value.string (str S)] 42)).cell? ⟨w.heap.size, 1, none⟩ = some (.int .i64 N) := by rw [Lib.cell_of_heap (heap_alloc_new w _)]; rfl
  have k0 := Lib.hid k0
  go_wp2_with fail
  refine (WByte_any c B _ xs N _ (Lib.hid B0.out.own) (by have := hl1.out; omega) n1 n2).mono ?_
  rintro e w1 ⟨rfl, v1, W1, O1, F1⟩
  have k1 := part_kept h.out.own O1 k0.out
  have H1 := Lib.hid (doc_kept h.out H.out O1)
  have W1 := Lib.hid W1
  have O1 := Lib.hid O1
  have F1 := Lib.hid F1
  go_wp2_with fail
  refine (RefByte_any A len cap xs N w1 (by omega) hA.out H1 n1 n2).mono ?_
  rintro e w2 ⟨r2, rfl, h2, b2⟩
  have fin := Lib.hid (put_fin h.out W1.out O1.out F1.out h2 b2)
  clear h2 b2
  go_wp2_with fail
  go_ret
  exact ⟨v1, r2, rfl, fin.out⟩

set_option maxRecDepth 100000 in
set_option maxHeartbeats 1000000 in
theorem Put_two (c B : Nat) (v r : Value) (xs S : List UInt8) (N : Int) (w : World) (h : Hid (Both c B v r xs w)) (hl : xs.length ≤ 900000) (n1 : -9223372036854775808 ≤ N) (n2 : N ≤ 9223372036854775807) :
    Calls Try.prog 15 #[.pointer (some ⟨c, 0, none⟩), r, .agg #[.int .i64 2, .int .i64 N, .string (str S)]] w fun e w' => ∃ v' r', e = .returned r' ∧ Both c B v' r' (xs ++ longL N) w' ∧ Only (wp c v) w w' ∧ From w v v' := by
  obtain ⟨A, cap, er, H, hA, _, _⟩ := h.out.doc.holds
  have hl1 := Lib.hid hl
  obtain ⟨len, el⟩ : ∃ len, xs.length = len := ⟨_, rfl⟩
  rw [el] at er H hl
  subst er
  have H := Lib.hid H
  have hA := Lib.hid hA
  clear el
  go_enter Try.func15, Try.ntmps15
  go_wp2_with fail
  refine (Head_any S 300 _ (by omega)).mono ?_
  rintro e w0 ⟨rfl, rfl⟩
  have B0 := Lib.hid (h.out.alloc (Obj.cells #[Value.int IntKind.i64 2, Value.int IntKind.i64 N, Value.string (str S)] 42))
  have k0 : (w.alloc (Obj.cells #[Value.int IntKind.i64 2, Value.int IntKind.i64 N, Value.string (str S)] 42)).cell? ⟨w.heap.size, 1, none⟩ = some (.int .i64 N) := by rw [Lib.cell_of_heap (heap_alloc_new w _)]; rfl
  have k0 := Lib.hid k0
  go_wp2_with fail
  refine (WLong_any c B _ xs N _ (Lib.hid B0.out.own) (by have := hl1.out; omega) n1 n2).mono ?_
  rintro e w1 ⟨rfl, v1, W1, O1, F1⟩
  have k1 := part_kept h.out.own O1 k0.out
  have H1 := Lib.hid (doc_kept h.out H.out O1)
  have W1 := Lib.hid W1
  have O1 := Lib.hid O1
  have F1 := Lib.hid F1
  go_wp2_with fail
  refine (RefLong_any A len cap xs N w1 (by omega) hA.out H1 n1 n2).mono ?_
  rintro e w2 ⟨r2, rfl, h2, b2⟩
  have fin := Lib.hid (put_fin h.out W1.out O1.out F1.out h2 b2)
  clear h2 b2
  go_wp2_with fail
  go_ret
  exact ⟨v1, r2, rfl, fin.out⟩

set_option maxRecDepth 100000 in
set_option maxHeartbeats 1000000 in
theorem Put_text (kind : Int) (g1 : kind ≠ 1) (g2 : kind ≠ 2) (c B : Nat) (v r : Value) (xs S : List UInt8) (N : Int) (w : World) (h : Hid (Both c B v r xs w)) (hl : xs.length ≤ 900000) (n1 : -9223372036854775808 ≤ N) (n2 : N ≤ 9223372036854775807) :
    Calls Try.prog 15 #[.pointer (some ⟨c, 0, none⟩), r, .agg #[.int .i64 kind, .int .i64 N, .string (str S)]] w fun e w' => ∃ v' r', e = .returned r' ∧ Both c B v' r' (xs ++ textL S) w' ∧ Only (wp c v) w w' ∧ From w v v' := by
  have j1 : (kind == 1) = false := by simpa using g1
  have j2 : (kind == 2) = false := by simpa using g2
  clear g1 g2
  have hcut := Lib.hid (textL_cut S)
  obtain ⟨A, cap, er, H, hA, _, _⟩ := h.out.doc.holds
  have hl1 := Lib.hid hl
  obtain ⟨len, el⟩ : ∃ len, xs.length = len := ⟨_, rfl⟩
  rw [el] at er H hl
  subst er
  have H := Lib.hid H
  have hA := Lib.hid hA
  clear el
  go_enter Try.func15, Try.ntmps15
  go_wp2_with fail
  refine (Head_any S 300 _ (by omega)).mono ?_
  rintro e w0 ⟨rfl, rfl⟩
  have B0 := Lib.hid (h.out.alloc (Obj.cells #[Value.int IntKind.i64 kind, Value.int IntKind.i64 N, Value.string (str S)] 42))
  have k0 : (w.alloc (Obj.cells #[Value.int IntKind.i64 kind, Value.int IntKind.i64 N, Value.string (str S)] 42)).cell? ⟨w.heap.size, 1, none⟩ = some (.int .i64 N) := by rw [Lib.cell_of_heap (heap_alloc_new w _)]; rfl
  have k0 := Lib.hid k0
  go_wp2_with fail
  refine (WText_any c B _ xs (S.take 300) _ (Lib.hid B0.out.own) (by have := hl1.out; omega) (by rw [List.length_take]; omega)).mono ?_
  rintro e w1 ⟨rfl, v1, W1, O1, F1⟩
  have W1 : Wr c B v1 (xs ++ textL S) w1 := by rw [List.append_assoc] at W1; rw [← hcut.out]; exact W1
  have k1 := part_kept h.out.own O1 k0.out
  have H1 := Lib.hid (doc_kept h.out H.out O1)
  have W1 := Lib.hid W1
  have O1 := Lib.hid O1
  have F1 := Lib.hid F1
  go_wp2_with fail
  refine (RefText_any A len cap xs (S.take 300) w1 (by omega) hA.out H1).mono ?_
  rintro e w2 ⟨r2, rfl, h2, b2⟩
  have h2 : RB w2 w1.heap.size r2 (xs ++ textL S) := by rw [List.append_assoc] at h2; rw [← hcut.out]; exact h2
  have fin := Lib.hid (put_fin h.out W1.out O1.out F1.out h2 b2)
  clear h2 b2
  go_wp2_with fail
  go_ret
  exact ⟨v1, r2, rfl, fin.out⟩

theorem Put_any (c B : Nat) (v r : Value) (xs S : List UInt8) (kind N : Int) (w : World) (h : Hid (Both c B v r xs w)) (hl : xs.length ≤ 900000) (n1 : -9223372036854775808 ≤ N) (n2 : N ≤ 9223372036854775807) :
    Calls Try.prog 15 #[.pointer (some ⟨c, 0, none⟩), r, .agg #[.int .i64 kind, .int .i64 N, .string (str S)]] w fun e w' => ∃ v' r', e = .returned r' ∧ Both c B v' r' (xs ++ partL kind N S) w' ∧ Only (wp c v) w w' ∧ From w v v' := by
  by_cases h1 : kind = 1
  · subst h1
    exact Put_one c B v r xs S N w h hl n1 n2
  · by_cases h2 : kind = 2
    · subst h2
      exact Put_two c B v r xs S N w h hl n1 n2
    · have e : partL kind N S = textL S := by unfold partL; rw [if_neg h1, if_neg h2]
      rw [e]
      exact Put_text kind h1 h2 c B v r xs S N w h hl n1 n2
end Go.Proofs.Ytnjedfnaohdnfaa

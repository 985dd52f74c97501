/-
  Contracts: Pad, of package label and of the document's own answer.
-/
import Derived.Test.YtkgjnapkpbagnaaCut
namespace Go.Proofs.Ytkgjnapkpbagnaa
open Go.RowKit
set_option linter.unusedVariables false
set_option linter.unusedSimpArgs false

/-- A builder stays one while only new blocks come. -/
theorem heap_below {w w' : World} {k : Nat} {o : Obj} (hb : Below w.heap.size w w') (h : w.heap[k]? = some o) : w'.heap[k]? = some o := by
  have hlt : k < w.heap.size := (Array.getElem?_eq_some_iff.1 h).1
  rw [hb.block k hlt]; exact h
theorem bldAt_below {T e : TypeId} {B b : Nat} {p : Value} {bs : List Value} {w w' : World} (h : Lib.BuilderAtF T e B b p bs w) (hb : Below w.heap.size w w') : Lib.BuilderAtF T e B b p bs w' := by
  obtain ⟨hB, v, hv, hown, hne⟩ := h
  refine ⟨hB, v, heap_below hb hv, ⟨hown.1, ?_⟩, hne⟩
  rcases hown.2 with hn | ⟨g, cap, cur, fz, h1, h2, hg, rest⟩
  · exact .inl hn
  · exact .inr ⟨g, cap, cur, fz, h1, h2, heap_below hb hg, rest⟩
theorem Bld.below {B b : Nat} {l : List UInt8} {w w' : World} (h : Bld B b l w) (hb : Below w.heap.size w w') : Bld B b l w' :=
  h.elim (fun x => .inl (bldAt_below x hb)) (fun x => .inr (bldAt_below x hb))
theorem bld_fresh (w : World) : Bld w.heap.size w.heap.size [] (w.alloc (.cells #[.pointer none, .slice none 0 0] 35)) :=
  Lib.IsBuilderF.of (Lib.fresh_isBuilder 35 5 w)

/-- A text with blanks up to m runes, m no more than may be. -/
def padTo (l : List UInt8) (m : Int) : List UInt8 := cutL l m ++ List.replicate (m - (runes (cutL l m)).length).toNat 32
/-- A number of runes, as far as Pad goes. -/
def upTo (n : Int) : Int := min n 1000
def padL (l : List UInt8) (n : Int) : List UInt8 := padTo l (upTo n)
theorem pad_len (l : List UInt8) (m : Int) (h : m ≤ 1000) : (padTo l m).length ≤ l.length + 1000 := by
  unfold padTo
  have := cutL_le l m
  rw [List.length_append, List.length_replicate]
  omega
theorem padL_len (l : List UInt8) (n : Int) : (padL l n).length ≤ l.length + 1000 := pad_len l _ (by unfold upTo; omega)
theorem blanks_next {c : List UInt8} {j : Nat} : c ++ List.replicate j 32 ++ [32] = c ++ List.replicate (j + 1) 32 := by
  rw [List.append_assoc, List.replicate_succ']

set_option maxRecDepth 100000 in
set_option maxHeartbeats 1000000 in
theorem Pad_go (l : List UInt8) (n m : Int) (w : World) (hs : l.length ≤ 1000000) (n1 : -9223372036854775808 ≤ n) (n2 : n ≤ 9223372036854775807) (hm : m ≤ 1000) (m1 : -9223372036854775808 ≤ m) (hnm : Hid (min n 1000 = m)) :
    Calls Try.prog 19 #[.string (str l), .int .i64 n] w fun e w' => e = .returned (.string (str (padTo l m))) ∧ Below w.heap.size w w' := by
  have hc := cutL_le l m
  have hcl : (runes (cutL l m)).length ≤ 1000000 := Nat.le_trans (runes_len _) (by omega)
  obtain ⟨c, ec⟩ : ∃ c, cutL l m = c := ⟨_, rfl⟩
  have hpad := Lib.hid (show padTo l m = c ++ List.replicate (m - (runes c).length).toNat 32 by unfold padTo; rw [ec])
  rw [ec] at hc hcl
  have ec := Lib.hid ec
  obtain ⟨q, eq⟩ : ∃ q, (runes c).length = q := ⟨_, rfl⟩
  rw [eq] at hcl hpad
  have eq := Lib.hid eq
  go_enter Try.func19, Try.ntmps19
  go_wp2_with fail
  rw [hnm.out]
  refine (Cut_any l m _ (by omega) m1 (by omega)).mono ?_
  rintro e w1 ⟨rfl, b1⟩
  rw [ec.out]
  have f1 := bld_fresh w1
  have f1 := Lib.hid f1
  have b1 := Lib.hid b1
  go_wp2_with fail
  refine (WriteString_any _ _ [] c _ f1.out (by simp; omega) (by simp)).mono ?_
  rintro e w3 ⟨rfl, g3, b3, _⟩
  have g3 := Lib.hid g3
  have b13 := Lib.hid (((Below.refl w1.heap.size w1).alloc (Nat.le_refl _) _).trans b3)
  clear b3
  go_wp2_with fail
  refine (Count_any c _ (by omega)).mono ?_
  rintro e w4 ⟨rfl, b4⟩
  rw [eq.out]
  have g4 := Lib.hid (g3.out.below b4)
  have b14 := Lib.hid (b13.out.trans (b4.mono b13.out.size))
  clear b4
  go_wp2_with fail
  go_loopw [7] (fun s wr => ∃ j : Nat, j ≤ 1000000 + 1000 ∧ s = .int .i64 ((q : Int) + j) ∧ Hid ((j : Int) ≤ (m - q).toNat) ∧ Hid (Bld w1.heap.size w1.heap.size (c ++ List.replicate j 32) wr) ∧ Hid (Below w1.heap.size w1 wr)) (fun s _ => (m - intOf s).toNat)
  case atStart => exact ⟨0, by omega, by go_num, Lib.hid (by omega), Lib.hid (by simpa using g4.out), b14⟩
  case round =>
    obtain ⟨j, hj, rfl, hjm, hB, hw⟩ := hrel
    have hwz := hw.out.size
    by_cases hlt : (q : Int) + j < m
    · have hd1 : decide ((q : Int) + j < m) = true := decide_eq_true hlt
      go_wp2_with fail
      refine (WriteByte_blank _ _ _ _ hB.out (by simp; omega) hwz).mono ?_
      rintro e w5 ⟨rfl, g5, b5, _⟩
      rw [blanks_next] at g5
      have g5 := Lib.hid g5
      have b5 := Lib.hid (hw.out.trans b5)
      go_wp2_with fail
      go_roundw
      case rel => exact ⟨j + 1, by omega, by go_num, Lib.hid (by omega), g5, b5⟩
      case measure => simp [intOf]; omega
    · have hd1 : decide ((q : Int) + j < m) = false := decide_eq_false hlt
      have hfin : Hid (c ++ List.replicate j 32 = padTo l m) := Lib.hid (by rw [hpad.out, show (m - q).toNat = j by have := hjm.out; omega])
      go_wp2_with fail
      refine (String_any _ _ _ _ hB.out hwz).mono ?_
      rintro e w5 ⟨rfl, b5⟩
      rw [hfin.out]
      go_wp2_with fail
      go_ret
      exact ⟨rfl, b1.out.trans ((hw.out.trans b5).mono b1.out.size)⟩

theorem Pad_any (l : List UInt8) (n : Int) (w : World) (hs : l.length ≤ 1000000) (n1 : -9223372036854775808 ≤ n) (n2 : n ≤ 9223372036854775807) :
    Calls Try.prog 19 #[.string (str l), .int .i64 n] w fun e w' => e = .returned (.string (str (padL l n))) ∧ Below w.heap.size w w' := by
  exact Pad_go l n (upTo n) w hs n1 n2 (by unfold upTo; omega) (by unfold upTo; omega) (Lib.hid rfl)
end Go.Proofs.Ytkgjnapkpbagnaa

/-
  The keep's products by the four numbers that a rule asks; the law's known.
-/
import Derived.Test.YtabogoonbapjiaaAlRef
import Derived.Test.YtabogoonbapjiaaAlIn
import Derived.Test.YtabogoonbapjiaaKeepThreeI
import Derived.Test.YtabogoonbapjiaaKeepProduct
import Derived.Test.YtabogoonbapjiaaPrKnown
namespace Go.Proofs.Ytabogoonbapjiaa
open Go.RowKit
set_option linter.unusedVariables false
set_option linter.unusedSimpArgs false

/-- Orders, laid. -/
theorem ors_lit (w : World) (L : List Or) (T : TypeId) (cs : Array Value) (hc : cs.toList = rowsG fO.f L) : HV fO (w.alloc (.cells cs T)) (some ⟨w.heap.size, 0, none⟩) L.length L := by
  refine ⟨rfl, fun j x hx => ⟨w.heap.size, 0, rfl, fun m u hu => ?_⟩⟩
  have hm : m < fO.k := by rw [← fO.len x]; exact (List.getElem?_eq_some_iff.1 hu).1
  rw [show 0 + j * fO.k + m = j * fO.k + m by omega, Lib.cell_of_heap (heap_alloc_new w _), ← Array.getElem?_toList, hc, rowsG_get L j m x hx hm, hu]
theorem Three_al (r : Int) (h1 : -9223372036854775808 ≤ r) (h2 : r ≤ 9223372036854775807) (w : World) :
    Calls Try.prog 7 #[.int .i64 r] w fun e w' => ∃ P : PD, e = .returned P.val ∧ P.rule = r ∧ P.top = 4 ∧ P.least = 2 ∧ P.part = 40 ∧ P.Can ∧ Below w.heap.size w w' :=
  (Three_any r w).mono fun e w' ⟨a1, a2, h, _, _, hb⟩ => ⟨_, h, rfl, rfl, rfl, rfl, ⟨⟨h1, h2⟩, show I64 4 from ⟨by decide, by decide⟩, show I64 2 from ⟨by decide, by decide⟩, show I64 40 from ⟨by decide, by decide⟩⟩, hb⟩
/-- A right product, by the numbers that a rule asks. -/
structure PD.Fair (p : PD) : Prop where
  can : p.Can
  r1 : 1 ≤ p.rule
  r2 : p.rule ≤ 3
  t : 0 ≤ p.top
  m : 1 ≤ p.least
  p1 : 0 ≤ p.part
  p2 : p.part ≤ 100
theorem KProd_al (p : PD) (w : World) (h : Hid (p.Fit w)) :
    Calls Try.prog 15 #[p.val] w fun e w' => ∃ P : PD, e = .returned P.val ∧ P.Fair ∧ Below w.heap.size w w' :=
  (KProduct_any p w h).mono fun e w' ⟨A1, c1, A2, c2, h1, h2, h3⟩ => by
    have a := withinN_le p.rule 2
    have b := withinN_le p.top 9
    have c := withinN_le p.least 4
    have d := withinN_le p.part 100
    refine ⟨_, h1, ⟨⟨?_, ?_, ?_, ?_⟩, ?_, ?_, ?_, ?_, ?_, ?_⟩, h3⟩
    · show I64 (1 + (withinN p.rule 2 : Int)); exact ⟨by omega, by omega⟩
    · show I64 (withinN p.top 9 : Int); exact ⟨by omega, by omega⟩
    · show I64 (1 + (withinN p.least 4 : Int)); exact ⟨by omega, by omega⟩
    · show I64 (withinN p.part 100 : Int); exact ⟨by omega, by omega⟩
    · show 1 ≤ 1 + (withinN p.rule 2 : Int); omega
    · show 1 + (withinN p.rule 2 : Int) ≤ 3; omega
    · show 0 ≤ (withinN p.top 9 : Int); omega
    · show 1 ≤ 1 + (withinN p.least 4 : Int); omega
    · show 0 ≤ (withinN p.part 100 : Int); omega
    · show (withinN p.part 100 : Int) ≤ 100; omega
/-- An answer, by letters. -/
theorem alloc_letters (rule top least part : Int) (L : List Or) (q : Int) : ∃ X nx, allocL rule top least part L q = X ∧ X.length = nx ∧ nx ≤ 250 ∧ Hid (∀ y ∈ X, I64 y) := ⟨_, _, rfl, rfl, (alloc_cases rule top least part L q).1, Lib.hid (alloc_cases rule top least part L q).2⟩
theorem pd_block {w W : World} {g : Nat} {p : PD} (h : w.heap[g]? = some (.cells p.cells 28 (0, 0))) (b : Below w.heap.size w W) : W.heap[g]? = some (.cells p.cells 28 (0, 0)) := (b.block g (Array.getElem?_eq_some_iff.1 h).1).trans h
def knownO : List Or := [⟨1, 0, 0, 5, false⟩, ⟨2, 0, 0, 5, false⟩]
theorem knownO_ok : OkO knownO := fun x hx => by
  simp only [knownO, List.mem_cons, List.not_mem_nil, or_false] at hx
  rcases hx with rfl | rfl <;> exact ⟨⟨by decide, by decide⟩, ⟨by decide, by decide⟩, ⟨by decide, by decide⟩, ⟨by decide, by decide⟩⟩
theorem knownO_len : knownO.length = 2 := rfl
theorem known_first : allocL 1 4 2 40 knownO 7 = [5, 2] := by kernel_rfl
theorem known_none : allocL 0 4 2 40 knownO 7 = [] := by kernel_rfl
theorem build_five (i : Int) : ∀ W : World, (Instr.build 23 #[(0, .int .i64 i), (3, .int .i64 5)]).run Try.prog W = .ok (.agg #[.int .i64 i, .int .i64 0, .int .i64 0, .int .i64 5, .bool false]) W := fun W => by kernel_rfl
set_option maxRecDepth 100000 in
set_option maxHeartbeats 3200000 in
theorem Known_any (w : World) : Calls Try.prog 12 #[] w fun e w' => e = .returned (.bool true) ∧ Below w.heap.size w w' := by
  obtain ⟨W0, eW0⟩ : ∃ W, w.alloc (.cells #[.int .i64 1, .int .i64 0, .int .i64 0, .int .i64 5, .bool false, .int .i64 2, .int .i64 0, .int .i64 0, .int .i64 5, .bool false] 23) = W := ⟨_, rfl⟩
  obtain ⟨g, eg⟩ : ∃ g, w.heap.size = g := ⟨_, rfl⟩
  have hV : HV fO W0 (some ⟨g, 0, none⟩) 2 knownO := by rw [← eW0, ← eg]; exact ors_lit w knownO 23 _ (by rfl)
  have B0 : Below w.heap.size w W0 := by rw [← eW0]; exact (Below.refl _ w).alloc (Nat.le_refl _) _
  have bl1 := build_five 1
  have bl2 := build_five 2
  replace hV := Lib.hid hV
  replace B0 := Lib.hid B0
  have kO := Lib.hid knownO_ok
  replace eW0 := Lib.hid eW0
  replace eg := Lib.hid eg
  go_enter Try.func12, Try.ntmps12
  go_upto_region 2 with (fail)
  rw [eW0.out, eg.out]
  have HS := Lib.hid (Three_al 1 (by omega) (by omega) W0)
  go_wp2_with fail
  refine HS.out.mono ?_
  rintro e w1 ⟨P, rfl, p1, p2, p3, p4, pc, b1⟩
  have V1 := Lib.hid (hV.out.below b1)
  have B1 := Lib.hid (below_up B0.out b1)
  clear HS
  have HS := AShare_any P (some ⟨g, 0, none⟩) 2 2 knownO 7 w1 (by omega) (by omega) (by omega) (Lib.hid pc) V1 kO
  rw [p1, p2, p3, p4, known_first] at HS
  replace HS := Lib.hid HS
  clear p1 p2 p3 p4 pc b1
  go_wp2_with fail
  refine HS.out.mono ?_
  rintro e w2 ⟨v, rfl, r2, b2⟩
  obtain ⟨A2, c2, rfl, h2, -, -, -, -⟩ := r2.slice (small_I64 (by decide))
  simp only [List.length_cons, List.length_nil, Nat.zero_add, Nat.reduceAdd] at h2
  have V2 := Lib.hid (V1.out.below b2)
  have B2 := Lib.hid (below_up B1.out b2)
  clear HS r2 b2
  have HS := Lib.hid (Same_yes A2 (some ⟨w2.heap.size, 0, none⟩) 2 c2 2 [5, 2] (w2.alloc (.cells #[.int .i64 5, .int .i64 2] 2)) (by omega) (Lib.hid (h2.alloc _)) (Lib.hid (holds_lit w2 [5, 2] 2 (small_I64 (by decide)))))
  have hb : Below w2.heap.size w2 (w2.alloc (.cells #[.int .i64 5, .int .i64 2] 2)) := (Below.refl _ w2).alloc (Nat.le_refl _) _
  replace V2 := Lib.hid (V2.out.below hb)
  replace B2 := Lib.hid (below_up B2.out hb)
  clear h2 hb
  go_wp2_with fail
  refine HS.out.mono ?_
  rintro e w3 ⟨rfl, d, rfl⟩
  have V3 : Hid (HV fO ((w2.alloc (.cells #[.int .i64 5, .int .i64 2] 2)).drewN d) (some ⟨g, 0, none⟩) 2 knownO) := Lib.hid V2.out
  have B3 := Lib.hid (below_drewN B2.out d)
  obtain ⟨w3, e3⟩ : ∃ x, (w2.alloc (.cells #[.int .i64 5, .int .i64 2] 2)).drewN d = x := ⟨_, rfl⟩
  rw [e3] at V3 B3 ⊢
  clear HS e3
  have HS := Lib.hid (Three_al 0 (by omega) (by omega) w3)
  go_wp2_with fail
  refine HS.out.mono ?_
  rintro e w4 ⟨P, rfl, p1, p2, p3, p4, pc, b1⟩
  have V4 := Lib.hid (V3.out.below b1)
  have B4 := Lib.hid (below_up B3.out b1)
  clear HS
  have HS := AShare_any P (some ⟨g, 0, none⟩) 2 2 knownO 7 w4 (by omega) (by omega) (by omega) (Lib.hid pc) V4 kO
  rw [p1, p2, p3, p4, known_none] at HS
  replace HS := Lib.hid HS
  clear p1 p2 p3 p4 pc b1
  go_wp2_with fail
  refine HS.out.mono ?_
  rintro e w5 ⟨v, rfl, r2, b2⟩
  obtain ⟨A5, c5, rfl, h5, -, -, -, -⟩ := r2.slice (small_I64 (by decide))
  have B5 := Lib.hid (below_up B4.out b2)
  clear HS r2 b2 h5
  go_wp2_with fail
  go_ret
  exact ⟨rfl, B5.out⟩
end Go.Proofs.Ytabogoonbapjiaa

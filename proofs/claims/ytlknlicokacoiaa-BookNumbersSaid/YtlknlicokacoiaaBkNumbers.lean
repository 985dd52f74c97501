/-
  The walk of BookNumbers.
-/
import Derived.Test.YtlknlicokacoiaaBkPlays
import Derived.Test.YtlknlicokacoiaaBkTops0
import Derived.Deep.CutBlock
namespace Go.Proofs.Ytlknlicokacoiaa
open Go.RowKit
set_option linter.unusedVariables false
set_option linter.unusedSimpArgs false
set_option linter.constructorNameAsVariable false

def nAsks : List Ask := [⟨1, 0, 1, 5, 5⟩, ⟨1, 3, 1, 5, 5⟩, ⟨1, 1, 1, 5, 0⟩, ⟨1, 1, 1, 5, 1000001⟩, ⟨1, 1, 1, 5, 10⟩, ⟨1, 2, 1, 9, 10⟩, ⟨1, 1, 2, 4, 10⟩, ⟨1, 1, 3, 5, 10⟩, ⟨1, 2, 4, 9, 10⟩, ⟨1, 2, 5, 9, 10⟩, ⟨1, 2, 6, 8, 10⟩, ⟨1, 2, 7, (-9223372036854775808), 10⟩, ⟨2, 0, 7, 0, 3⟩, ⟨2, 0, 9, 0, 3⟩, ⟨2, 0, 1, 0, 11⟩, ⟨2, 0, 1, 0, 0⟩, ⟨2, 0, 1, 0, 10⟩, ⟨1, 1, 8, 5, 1⟩, ⟨1, 1, 9, 6, 1⟩, ⟨2, 0, 9, 0, 1⟩, ⟨2, 0, 7, 0, 7⟩, ⟨2, 0, 6, 0, 10⟩, ⟨1, 2, 10, 8, 1⟩, ⟨2, 0, 4, 0, 1⟩, ⟨1, 1, 11, 9223372036854775807, 1⟩, ⟨1, 0, 4, 5, 0⟩]
theorem nAsks_ok : OkK nAsks := by
  intro x hx
  simp only [nAsks, List.mem_cons, List.not_mem_nil, or_false] at hx
  rcases hx with rfl | rfl | rfl | rfl | rfl | rfl | rfl | rfl | rfl | rfl | rfl | rfl | rfl | rfl | rfl | rfl | rfl | rfl | rfl | rfl | rfl | rfl | rfl | rfl | rfl | rfl <;> exact ⟨⟨by decide, by decide⟩, ⟨by decide, by decide⟩, ⟨by decide, by decide⟩, ⟨by decide, by decide⟩, ⟨by decide, by decide⟩⟩
def nCells : Array Value := List.toArray (Value.int .i64 1 :: Value.int .i64 0 :: Value.int .i64 1 :: Value.int .i64 5 :: Value.int .i64 5 :: Value.int .i64 1 :: Value.int .i64 3 :: Value.int .i64 1 :: Value.int .i64 5 :: Value.int .i64 5 :: Value.int .i64 1 :: Value.int .i64 1 :: Value.int .i64 1 :: Value.int .i64 5 :: Value.int .i64 0 :: Value.int .i64 1 :: Value.int .i64 1 :: Value.int .i64 1 :: Value.int .i64 5 :: Value.int .i64 1000001 :: Value.int .i64 1 :: Value.int .i64 1 :: Value.int .i64 1 :: Value.int .i64 5 :: Value.int .i64 10 :: Value.int .i64 1 :: Value.int .i64 2 :: Value.int .i64 1 :: Value.int .i64 9 :: Value.int .i64 10 :: Value.int .i64 1 :: Value.int .i64 1 :: Value.int .i64 2 :: Value.int .i64 4 :: Value.int .i64 10 :: Value.int .i64 1 :: Value.int .i64 1 :: Value.int .i64 3 :: Value.int .i64 5 :: Value.int .i64 10 :: Value.int .i64 1 :: Value.int .i64 2 :: Value.int .i64 4 :: Value.int .i64 9 :: Value.int .i64 10 :: Value.int .i64 1 :: Value.int .i64 2 :: Value.int .i64 5 :: Value.int .i64 9 :: Value.int .i64 10 :: Value.int .i64 1 :: Value.int .i64 2 :: Value.int .i64 6 :: Value.int .i64 8 :: Value.int .i64 10 :: Value.int .i64 1 :: Value.int .i64 2 :: Value.int .i64 7 :: Value.int .i64 (-9223372036854775808) :: Value.int .i64 10 :: Value.int .i64 2 :: Value.int .i64 0 :: Value.int .i64 7 :: Value.int .i64 0 :: Value.int .i64 3 :: Value.int .i64 2 :: Value.int .i64 0 :: Value.int .i64 9 :: Value.int .i64 0 :: Value.int .i64 3 :: Value.int .i64 2 :: Value.int .i64 0 :: Value.int .i64 1 :: Value.int .i64 0 :: Value.int .i64 11 :: Value.int .i64 2 :: Value.int .i64 0 :: Value.int .i64 1 :: Value.int .i64 0 :: Value.int .i64 0 :: Value.int .i64 2 :: Value.int .i64 0 :: Value.int .i64 1 :: Value.int .i64 0 :: Value.int .i64 10 :: Value.int .i64 1 :: Value.int .i64 1 :: Value.int .i64 8 :: Value.int .i64 5 :: Value.int .i64 1 :: Value.int .i64 1 :: Value.int .i64 1 :: Value.int .i64 9 :: Value.int .i64 6 :: Value.int .i64 1 :: Value.int .i64 2 :: Value.int .i64 0 :: Value.int .i64 9 :: Value.int .i64 0 :: Value.int .i64 1 :: Value.int .i64 2 :: Value.int .i64 0 :: Value.int .i64 7 :: Value.int .i64 0 :: Value.int .i64 7 :: Value.int .i64 2 :: Value.int .i64 0 :: Value.int .i64 6 :: Value.int .i64 0 :: Value.int .i64 10 :: Value.int .i64 1 :: Value.int .i64 2 :: Value.int .i64 10 :: Value.int .i64 8 :: Value.int .i64 1 :: Value.int .i64 2 :: Value.int .i64 0 :: Value.int .i64 4 :: Value.int .i64 0 :: Value.int .i64 1 :: Value.int .i64 1 :: Value.int .i64 1 :: Value.int .i64 11 :: Value.int .i64 9223372036854775807 :: Value.int .i64 1 :: Value.int .i64 1 :: Value.int .i64 0 :: Value.int .i64 4 :: Value.int .i64 5 :: Value.int .i64 0 :: [])
set_option maxRecDepth 100000 in
theorem nAsks_at {w : World} {g : Nat} {T : TypeId} (h : w.heap[g]? = some (.cells nCells T (0, 0))) : HK w (some ⟨g, 0, none⟩) 26 nAsks := by
  refine ⟨rfl, fun j x hx => ⟨g, 0, rfl, ?_⟩⟩
  have hj : j < 26 := (List.getElem?_eq_some_iff.1 hx).1
  have h0 : j = 0 ∨ j = 1 ∨ j = 2 ∨ j = 3 ∨ j = 4 ∨ j = 5 ∨ j = 6 ∨ j = 7 ∨ j = 8 ∨ j = 9 ∨ j = 10 ∨ j = 11 ∨ j = 12 ∨ j = 13 ∨ j = 14 ∨ j = 15 ∨ j = 16 ∨ j = 17 ∨ j = 18 ∨ j = 19 ∨ j = 20 ∨ j = 21 ∨ j = 22 ∨ j = 23 ∨ j = 24 ∨ j = 25 := by omega
  rcases h0 with rfl | rfl | rfl | rfl | rfl | rfl | rfl | rfl | rfl | rfl | rfl | rfl | rfl | rfl | rfl | rfl | rfl | rfl | rfl | rfl | rfl | rfl | rfl | rfl | rfl | rfl <;> (injection hx with hx; subst hx; refine ⟨?_, ?_, ?_, ?_, ?_⟩ <;> (rw [Lib.cell_of_heap h]; rfl))
theorem build_nask (k s i p n : Int) : ∀ W : World, (Instr.build 29 #[(0, .int .i64 k), (1, .int .i64 s), (2, .int .i64 i), (3, .int .i64 p), (4, .int .i64 n)]).run Try.prog W = .ok (.agg #[.int .i64 k, .int .i64 s, .int .i64 i, .int .i64 p, .int .i64 n]) W := fun W => by kernel_rfl
def runN (j : Nat) : List Or := (nAsks.take j).foldl doO []
theorem runN_next {j : Nat} {x : Ask} (h : nAsks[j]? = some x) : runN (j + 1) = doO (runN j) x := by
  unfold runN
  rw [List.take_add_one, h, List.foldl_append]; rfl
def endN : List Or := [⟨11, 1, 9223372036854775807, 1, true⟩, ⟨3, 1, 5, 10, false⟩, ⟨8, 1, 5, 1, false⟩, ⟨2, 1, 4, 10, false⟩, ⟨10, 2, 8, 1, true⟩, ⟨4, 2, 9, 9, false⟩, ⟨5, 2, 9, 10, false⟩]
theorem runN_end : runN 26 = endN := by kernel_rfl
/-- While it is filled up. -/
structure Fil (m : Nat) (L : List Or) : Prop where
  low : ∀ x ∈ L, x.i < (m : Int)
  len : L.length + 13 = m
  old : 20 < m → hasI L 20 = true
theorem fil_zero : Fil 20 endN := ⟨fun x hx => by
  simp only [endN, List.mem_cons, List.not_mem_nil, or_false] at hx
  rcases hx with rfl | rfl | rfl | rfl | rfl | rfl | rfl <;> decide, rfl, fun h => by omega⟩
theorem ins_has {L : List Or} {i s p n j : Int} (h : i = j ∨ hasI L j = true) : hasI (insO L i s p n) j = true := by
  unfold insO
  rcases h with h | h
  · exact hasI_yes (x := ⟨i, s, p, n, topB L s p⟩) (by simp) h
  · unfold hasI at h
    rw [List.any_eq_true] at h
    obtain ⟨x, hx, hi⟩ := h
    have : ∃ y ∈ clrL L s p, y.i = j := by
      unfold clrL
      split
      · exact ⟨clr s x, List.mem_map.2 ⟨x, hx, rfl⟩, by rw [clr_i]; simpa using hi⟩
      · exact ⟨x, hx, by simpa using hi⟩
    obtain ⟨y, hy, e⟩ := this
    rw [← List.takeWhile_append_dropWhile (p := ahead s p) (l := clrL L s p)] at hy
    refine hasI_yes (x := y) ?_ e
    rcases List.mem_append.1 hy with k | k
    · exact List.mem_append.2 (.inl k)
    · exact List.mem_append.2 (.inr (List.mem_cons.2 (.inr k)))
theorem Fil.next {m : Nat} {L : List Or} (h : Fil m L) (hm : 20 ≤ m) (hl : L.length < 250) : addO L (m : Int) 1 (m : Int) 1 = (0, insO L (m : Int) 1 (m : Int) 1) ∧ Fil (m + 1) (insO L (m : Int) 1 (m : Int) 1) := by
  have hno : hasI L (m : Int) = false := hasI_no (fun x hx => by have := h.low x hx; omega)
  refine ⟨?_, fun x hx => ?_, ?_, fun _ => ?_⟩
  · unfold addO
    rw [if_neg (by simp), if_neg (by omega), if_neg (by rw [hno]; simp), if_neg (by omega)]
  · rcases mem_insO hx with rfl | k
    · show (m : Int) < ((m + 1 : Nat) : Int); omega
    · rcases mem_clrL k with ⟨_, k2⟩ | ⟨_, y, k2, rfl⟩
      · have := h.low x k2; omega
      · rw [clr_i]; have := h.low y k2; omega
  · rw [len_insO]; have := h.len; omega
  · by_cases e : m = 20
    · exact ins_has (.inl (by omega))
    · exact ins_has (.inr (h.old (by omega)))
theorem Fil.full {L : List Or} (h : Fil 263 L) : addO L 5000 1 1 1 = (13, L) ∧ addO L 20 1 1 1 = (25, L) := by
  have hno : hasI L 5000 = false := hasI_no (fun x hx => by have := h.low x hx; omega)
  have hl := h.len
  have ho := h.old (by omega)
  constructor
  · unfold addO
    rw [if_neg (by simp), if_neg (by omega), if_neg (by rw [hno]; simp), if_pos (by omega)]
  · unfold addO
    rw [if_neg (by simp), if_neg (by omega), if_pos ho]
set_option maxRecDepth 100000 in
set_option maxHeartbeats 8000000 in
theorem BNumbers_walk (w : World) : Calls Try.prog 3 #[] w fun e w' => e = .returned (.bool true) ∧ Below w.heap.size w w' := by
  have HN := Lib.hid (BNew_any w)
  obtain ⟨B, eB⟩ : ∃ B, w.heap.size = B := ⟨_, rfl⟩
  unfold NewBK at HN
  rw [eB] at HN ⊢
  replace eB := Lib.hid eB
  have hbr := build_rbook
  have hba := build_nask
  go_enter Try.func3, Try.ntmps3
  go_wp2_with fail
  refine HN.out.mono ?_
  rintro e w1 ⟨b, G, rfl, a1, b1⟩
  have hp := pair_new (w := w) a1
  have hb2 : Below w1.heap.size w1 (w1.alloc (.cells #[.slice none 0 0] 27)) := (Below.refl _ _).alloc (Nat.le_refl _) _
  obtain ⟨W2, eW2⟩ : ∃ X, w1.alloc (.cells #[.slice none 0 0] 27) = X := ⟨_, rfl⟩
  obtain ⟨d, ed⟩ : ∃ x, w1.heap.size = x := ⟨_, rfl⟩
  rw [eW2] at hp hb2
  rw [ed] at hp
  have hP0 := Lib.hid hp
  have hB0 : Hid (Below B w W2) := Lib.hid (b1.trans (hb2.mono a1.size))
  clear hp hb2 a1 b1
  go_wp2_with fail
  obtain ⟨W4, eW4⟩ : ∃ X, W2.alloc (.cells (List.toArray (Value.int .i64 1 :: Value.int .i64 0 :: Value.int .i64 1 :: Value.int .i64 5 :: Value.int .i64 5 :: Value.int .i64 1 :: Value.int .i64 3 :: Value.int .i64 1 :: Value.int .i64 5 :: Value.int .i64 5 :: Value.int .i64 1 :: Value.int .i64 1 :: Value.int .i64 1 :: Value.int .i64 5 :: Value.int .i64 0 :: Value.int .i64 1 :: Value.int .i64 1 :: Value.int .i64 1 :: Value.int .i64 5 :: Value.int .i64 1000001 :: Value.int .i64 1 :: Value.int .i64 1 :: Value.int .i64 1 :: Value.int .i64 5 :: Value.int .i64 10 :: Value.int .i64 1 :: Value.int .i64 2 :: Value.int .i64 1 :: Value.int .i64 9 :: Value.int .i64 10 :: Value.int .i64 1 :: Value.int .i64 1 :: Value.int .i64 2 :: Value.int .i64 4 :: Value.int .i64 10 :: Value.int .i64 1 :: Value.int .i64 1 :: Value.int .i64 3 :: Value.int .i64 5 :: Value.int .i64 10 :: Value.int .i64 1 :: Value.int .i64 2 :: Value.int .i64 4 :: Value.int .i64 9 :: Value.int .i64 10 :: Value.int .i64 1 :: Value.int .i64 2 :: Value.int .i64 5 :: Value.int .i64 9 :: Value.int .i64 10 :: Value.int .i64 1 :: Value.int .i64 2 :: Value.int .i64 6 :: Value.int .i64 8 :: Value.int .i64 10 :: Value.int .i64 1 :: Value.int .i64 2 :: Value.int .i64 7 :: Value.int .i64 (-9223372036854775808) :: Value.int .i64 10 :: Value.int .i64 2 :: Value.int .i64 0 :: Value.int .i64 7 :: Value.int .i64 0 :: Value.int .i64 3 :: Value.int .i64 2 :: Value.int .i64 0 :: Value.int .i64 9 :: Value.int .i64 0 :: Value.int .i64 3 :: Value.int .i64 2 :: Value.int .i64 0 :: Value.int .i64 1 :: Value.int .i64 0 :: Value.int .i64 11 :: Value.int .i64 2 :: Value.int .i64 0 :: Value.int .i64 1 :: Value.int .i64 0 :: Value.int .i64 0 :: Value.int .i64 2 :: Value.int .i64 0 :: Value.int .i64 1 :: Value.int .i64 0 :: Value.int .i64 10 :: Value.int .i64 1 :: Value.int .i64 1 :: Value.int .i64 8 :: Value.int .i64 5 :: Value.int .i64 1 :: Value.int .i64 1 :: Value.int .i64 1 :: Value.int .i64 9 :: Value.int .i64 6 :: Value.int .i64 1 :: Value.int .i64 2 :: Value.int .i64 0 :: Value.int .i64 9 :: Value.int .i64 0 :: Value.int .i64 1 :: Value.int .i64 2 :: Value.int .i64 0 :: Value.int .i64 7 :: Value.int .i64 0 :: Value.int .i64 7 :: Value.int .i64 2 :: Value.int .i64 0 :: Value.int .i64 6 :: Value.int .i64 0 :: Value.int .i64 10 :: Value.int .i64 1 :: Value.int .i64 2 :: Value.int .i64 10 :: Value.int .i64 8 :: Value.int .i64 1 :: Value.int .i64 2 :: Value.int .i64 0 :: Value.int .i64 4 :: Value.int .i64 0 :: Value.int .i64 1 :: Value.int .i64 1 :: Value.int .i64 1 :: Value.int .i64 11 :: Value.int .i64 9223372036854775807 :: Value.int .i64 1 :: Value.int .i64 1 :: Value.int .i64 0 :: Value.int .i64 4 :: Value.int .i64 5 :: Value.int .i64 0 :: [])) 29) = X := ⟨_, rfl⟩
  obtain ⟨g, eg⟩ : ∃ g, W2.heap.size = g := ⟨_, rfl⟩
  rw [eW4, eg]
  have hb4 : Below W2.heap.size W2 W4 := by rw [← eW4]; exact (Below.refl _ _).alloc (Nat.le_refl _) _
  have C4 : Hid (W4.heap[g]? = some (.cells nCells 29 (0, 0))) := Lib.hid (by rw [← eW4, ← eg]; exact heap_alloc_new W2 _)
  have hP4 := Lib.hid (hP0.out.below hb4)
  have hB4 : Hid (Below B w W4) := Lib.hid (hB0.out.trans (hb4.mono hP0.out.k.size))
  have N4 : Hid (∀ j, G j ∨ rfoot d (.slice none 0 0) j → j ≠ g) := Lib.hid (fun j hj e => by rcases hj with hj | hj; have := (hP0.out.k.lt hj).2; omega; have := (hP0.out.r.lt hj).2; omega)
  clear eW4 eg hb4 hP0 hB0 hba hbr eW2 ed
  go_loopw [39] (fun iv wr => ∃ (j : Nat) (G : Nat → Prop) (v : Value), iv = .int .i64 j ∧ j ≤ 26 ∧ Hid (PairAt B d b d G v (runN j) wr) ∧ Hid (Below B w wr) ∧ Hid (wr.heap[g]? = some (.cells nCells 29 (0, 0))) ∧ Hid (∀ j, G j ∨ rfoot d v j → j ≠ g)) (fun iv _ => (26 - intOf iv).toNat)
  case atStart => exact ⟨0, G, .slice none 0 0, rfl, by omega, hP4, hB4, C4, N4⟩
  case round =>
    clear hP4 hB4 C4 N4
    rename World => wo
    obtain ⟨j, G, v, rfl, hj, hP, hB, hC, hN⟩ := hrel
    by_cases hlt : j < 26
    · have d1 : decide (j < 26) = true := decide_eq_true hlt
      have d1' : decide ((j : Int) < 26) = true := decide_eq_true (by omega)
      have d3 : (j : Int) < 26 := by omega
      obtain ⟨x, hx⟩ : ∃ x, nAsks[j]? = some x := ⟨_, List.getElem?_eq_getElem (by show j < 26; exact hlt)⟩
      have hxo := Lib.hid (nAsks_ok x (List.mem_of_getElem? hx))
      have hrn := runN_next hx
      obtain ⟨b', off, eb, x0, x1, x2, x3, x4⟩ := (nAsks_at hC.out).2 j x hx
      injection eb with eb
      injection eb with eb1 eb2
      subst eb1
      subst eb2
      obtain ⟨kk, s0, ii, p0, m⟩ := x
      simp only [Nat.zero_add] at x0 x1 x2 x3 x4
      obtain ⟨xb, exb⟩ : ∃ g, wo.heap.size = g := ⟨_, rfl⟩
      obtain ⟨W0, eW0⟩ : ∃ X, wo.alloc (.cells #[.int .i64 kk, .int .i64 s0, .int .i64 ii, .int .i64 p0, .int .i64 m] 29) = X := ⟨_, rfl⟩
      have D0 : Below wo.heap.size wo W0 := by rw [← eW0]; exact (Below.refl _ _).alloc (Nat.le_refl _) _
      have h0 : W0.heap[xb]? = some (.cells #[.int .i64 kk, .int .i64 s0, .int .i64 ii, .int .i64 p0, .int .i64 m] 29 (0, 0)) := by rw [← eW0, ← exb]; exact heap_alloc_new wo _
      obtain ⟨⟨q0, q1, q2, q3, q4⟩, -⟩ := row5 h0
      have hP1 := Lib.hid (hP.out.below D0)
      have hB1 := Lib.hid (hB.out.trans (D0.mono hP.out.k.size))
      have hC1 : Hid (W0.heap[g]? = some (.cells nCells 29 (0, 0))) := Lib.hid ((D0.block g (Array.getElem?_eq_some_iff.1 hC.out).1).trans hC.out)
      have HD := LDo_any B d b d G v (runN j) ⟨kk, s0, ii, p0, m⟩ W0 hP1 hxo
      rw [← hrn] at HD
      simp only [Ask.val] at HD
      replace HD := Lib.hid HD
      replace hx := Lib.hid hx
      replace hrn := Lib.hid hrn
      replace D0 := Lib.hid D0
      replace h0 := Lib.hid h0
      obtain ⟨LN, eLN⟩ : ∃ l, runN (j + 1) = l := ⟨_, rfl⟩
      rw [eLN] at HD
      replace eLN := Lib.hid eLN
      clear hP hB hC
      go_wp2_with fail
      refine HD.out.mono ?_
      rintro e w5 ⟨G5, v5, rfl, P5, o5, n5, m5⟩
      have HL := Lib.hid (LAlike_any B d b d G5 v5 LN w5 (Lib.hid P5))
      have hB5 := Lib.hid (hB1.out.trans (hP1.out.did o5))
      have hC5 := (o5.block g (Array.getElem?_eq_some_iff.1 hC1.out).1 (fun e => hN.out g e rfl)).trans hC1.out
      have hg1 := (Array.getElem?_eq_some_iff.1 hC1.out).1
      have hN5 : Hid (∀ j, G5 j ∨ rfoot d v5 j → j ≠ g) := Lib.hid (fun j hj e => by
        rcases hj with hj | hj
        · rcases n5 j hj with k | k
          · exact hN.out j (.inl k) e
          · omega
        · rcases m5 j hj with k | k
          · exact hN.out j (.inr k) e
          · omega)
      replace P5 := Lib.hid P5
      replace hC5 := Lib.hid hC5
      clear HD o5 n5 m5 q0 q1 q2 q3 q4
      go_wp2_with fail
      refine HL.out.mono ?_
      rintro e w6 ⟨rfl, b6⟩
      have P6 : Hid (PairAt B d b d G5 v5 (runN (j + 1)) w6) := Lib.hid (by rw [eLN.out]; exact P5.out.below b6)
      have hB6 := Lib.hid (hB5.out.trans (b6.mono P5.out.k.size))
      have hC6 : Hid (w6.heap[g]? = some (.cells nCells 29 (0, 0))) := Lib.hid ((b6.block g (Array.getElem?_eq_some_iff.1 hC5.out).1).trans hC5.out)
      clear HL b6
      go_wp2_with fail
      go_roundw
      case rel => exact ⟨j + 1, G5, v5, by go_num, by omega, P6, hB6, hC6, hN5⟩
      case measure => simp [intOf]; omega
    · have hj26 : j = 26 := by omega
      have d1 : decide ((j : Int) < 26) = false := decide_eq_false (by omega)
      have d1' : decide (j < 26) = false := decide_eq_false hlt
      have hK : Hid (BK B b G endN wo) := Lib.hid (by have := hP.out.k; rw [hj26, runN_end] at this; exact this)
      replace hj26 := Lib.hid hj26
      have hF := Lib.hid fil_zero
      clear hP hC hN
      go_wp2_with fail
      go_loopw [5] (fun iv wr => ∃ (m : Nat) (G : Nat → Prop) (L : List Or), iv = .int .i64 m ∧ 20 ≤ m ∧ m ≤ 263 ∧ Hid (BK B b G L wr) ∧ Hid (Fil m L) ∧ Hid (Below B w wr)) (fun iv _ => (263 - intOf iv).toNat)
      case atStart => exact ⟨20, G, endN, rfl, by omega, by omega, hK, hF, hB⟩
      case round =>
        clear hK hF hB
        rename World => w2
        obtain ⟨m, G2, L, rfl, hm1, hm2, hK, hF, hB⟩ := hrel
        have hl := hF.out.len
        have HC := BkCount_any B b G2 L w2 hK
        obtain ⟨nL, enL⟩ : ∃ x, L.length = x := ⟨_, rfl⟩
        rw [enL] at HC hl
        replace HC := Lib.hid HC
        have e1 : decide ((m : Int) < 500) = true := decide_eq_true (by omega)
        by_cases hlt : nL < 250
        · have e2 : decide ((nL : Int) < 250) = true := decide_eq_true (by omega)
          have e3 : decide (nL < 250) = true := decide_eq_true hlt
          obtain ⟨f1, f2⟩ := hF.out.next hm1 (by omega)
          have HA := BAdd_any B b G2 L (m : Int) 1 (m : Int) 1 w2 hK (Lib.hid ⟨by omega, by omega⟩) (Lib.hid ⟨by omega, by omega⟩)
          rw [f1] at HA
          obtain ⟨LN, eLN⟩ : ∃ l, insO L (m : Int) 1 (m : Int) 1 = l := ⟨_, rfl⟩
          rw [eLN] at HA f2
          replace HA := Lib.hid HA
          replace f1 := Lib.hid f1
          replace f2 := Lib.hid f2
          replace eLN := Lib.hid eLN
          replace enL := Lib.hid enL
          go_wp2_with fail
          refine HC.out.mono ?_
          rintro e w3 ⟨rfl, rfl⟩
          go_wp2_with fail
          refine HA.out.mono ?_
          rintro e w4 ⟨G4, rfl, k4, o4, -⟩
          have hB4 := Lib.hid (hB.out.trans (hK.out.mine o4))
          replace k4 := Lib.hid k4
          clear HA HC o4
          go_wp2_with fail
          go_roundw
          case rel => exact ⟨m + 1, G4, LN, by go_num, by omega, by omega, k4, f2, hB4⟩
          case measure => simp [intOf]; omega
        · have e2 : decide ((nL : Int) < 250) = false := decide_eq_false (by omega)
          have e3 : decide (nL < 250) = false := decide_eq_false hlt
          obtain rfl : m = 263 := by omega
          obtain ⟨f1, f2⟩ := hF.out.full
          have HA := BAdd_any B b G2 L 5000 1 1 1 w2 hK (Lib.hid (i64_low (by omega) (by omega))) (Lib.hid (i64_low (by omega) (by omega)))
          have HA2 := fun (G : Nat → Prop) (W : World) (h : Hid (BK B b G L W)) => BAdd_any B b G L 20 1 1 1 W h (Lib.hid (i64_low (by omega) (by omega))) (Lib.hid (i64_low (by omega) (by omega)))
          rw [f1] at HA
          rw [f2] at HA2
          replace HA := Lib.hid HA
          replace HA2 := Lib.hid HA2
          replace f1 := Lib.hid f1
          replace f2 := Lib.hid f2
          replace enL := Lib.hid enL
          go_wp2_with fail
          refine HC.out.mono ?_
          rintro e w3 ⟨rfl, rfl⟩
          go_wp2_with fail
          refine HA.out.mono ?_
          rintro e w4 ⟨G4, rfl, k4, o4, -⟩
          have hB4 := Lib.hid (hB.out.trans (hK.out.mine o4))
          have H5 := Lib.hid (HA2.out G4 w4 (Lib.hid k4))
          replace k4 := Lib.hid k4
          clear HA HA2 HC o4
          go_wp2_with fail
          refine H5.out.mono ?_
          rintro e w5 ⟨G5, rfl, k5, o5, -⟩
          have hB5 := Lib.hid (hB4.out.trans (k4.out.mine o5))
          have HKn := Lib.hid (BKnown_any w5)
          have hks := Lib.hid k5.size
          clear H5 k5 o5
          go_wp2_with fail
          refine HKn.out.mono ?_
          rintro e w6 ⟨rfl, b6⟩
          have hB6 := Lib.hid (hB5.out.trans (b6.mono hks.out))
          clear b6
          go_wp2_with fail
          go_ret
          exact ⟨rfl, hB6.out⟩
end Go.Proofs.Ytlknlicokacoiaa

/-
  The walk of LevelNumbers.
-/
import Derived.Test.YtcfmnmknbebfnaaLvPlays
namespace Go.Proofs.Ytcfmnmknbebfnaa
open Go.RowKit
set_option linter.unusedVariables false
set_option linter.unusedSimpArgs false

def asks : List Ask := [⟨2, 0, 0, 1, 1, false⟩, ⟨1, 0, 0, 0, 0, false⟩, ⟨2, 0, 0, 0, 0, false⟩, ⟨2, 0, 0, 0, 1000001, false⟩, ⟨2, 0, 0, 5, 1000000, false⟩, ⟨1, 0, 0, 0, 0, false⟩, ⟨2, 1, 0, 6, 3, true⟩, ⟨2, 1, 0, 7, 3, false⟩, ⟨2, 2, 0, 7, 3, false⟩, ⟨3, 0, 2, 0, 1, false⟩, ⟨3, 0, (-1), 0, 1, false⟩, ⟨3, 0, 1, 0, 4, false⟩, ⟨3, 0, 1, 0, 0, false⟩, ⟨4, 0, 0, 0, 0, true⟩, ⟨4, 0, 9, 0, 0, false⟩, ⟨3, 0, 1, 0, 1, false⟩, ⟨3, 0, 1, 0, 2, false⟩, ⟨3, 0, 1, 0, 1, false⟩, ⟨4, 0, 1, 0, 0, false⟩, ⟨2, 0, 0, 8, 2, false⟩, ⟨3, 0, 0, 0, 1000000, false⟩, ⟨2, 0, 0, 9, 2, false⟩]
theorem asks_ok : OkK asks := by
  intro x hx
  simp only [asks, List.mem_cons, List.not_mem_nil, or_false] at hx
  rcases hx with rfl | rfl | rfl | rfl | rfl | rfl | rfl | rfl | rfl | rfl | rfl | rfl | rfl | rfl | rfl | rfl | rfl | rfl | rfl | rfl | rfl | rfl <;> exact ⟨⟨by decide, by decide⟩, ⟨by decide, by decide⟩, ⟨by decide, by decide⟩, ⟨by decide, by decide⟩, ⟨by decide, by decide⟩⟩
def askCells : Array Value := #[.int .i64 2, .int .i64 0, .int .i64 0, .int .i64 1, .int .i64 1, .bool false, .int .i64 1, .int .i64 0, .int .i64 0, .int .i64 0, .int .i64 0, .bool false, .int .i64 2, .int .i64 0, .int .i64 0, .int .i64 0, .int .i64 0, .bool false, .int .i64 2, .int .i64 0, .int .i64 0, .int .i64 0, .int .i64 1000001, .bool false, .int .i64 2, .int .i64 0, .int .i64 0, .int .i64 5, .int .i64 1000000, .bool false, .int .i64 1, .int .i64 0, .int .i64 0, .int .i64 0, .int .i64 0, .bool false, .int .i64 2, .int .i64 1, .int .i64 0, .int .i64 6, .int .i64 3, .bool true, .int .i64 2, .int .i64 1, .int .i64 0, .int .i64 7, .int .i64 3, .bool false, .int .i64 2, .int .i64 2, .int .i64 0, .int .i64 7, .int .i64 3, .bool false, .int .i64 3, .int .i64 0, .int .i64 2, .int .i64 0, .int .i64 1, .bool false, .int .i64 3, .int .i64 0, .int .i64 (-1), .int .i64 0, .int .i64 1, .bool false, .int .i64 3, .int .i64 0, .int .i64 1, .int .i64 0, .int .i64 4, .bool false, .int .i64 3, .int .i64 0, .int .i64 1, .int .i64 0, .int .i64 0, .bool false, .int .i64 4, .int .i64 0, .int .i64 0, .int .i64 0, .int .i64 0, .bool true, .int .i64 4, .int .i64 0, .int .i64 9, .int .i64 0, .int .i64 0, .bool false, .int .i64 3, .int .i64 0, .int .i64 1, .int .i64 0, .int .i64 1, .bool false, .int .i64 3, .int .i64 0, .int .i64 1, .int .i64 0, .int .i64 2, .bool false, .int .i64 3, .int .i64 0, .int .i64 1, .int .i64 0, .int .i64 1, .bool false, .int .i64 4, .int .i64 0, .int .i64 1, .int .i64 0, .int .i64 0, .bool false, .int .i64 2, .int .i64 0, .int .i64 0, .int .i64 8, .int .i64 2, .bool false, .int .i64 3, .int .i64 0, .int .i64 0, .int .i64 0, .int .i64 1000000, .bool false, .int .i64 2, .int .i64 0, .int .i64 0, .int .i64 9, .int .i64 2, .bool false]
set_option maxRecDepth 100000 in
theorem asks_at {w : World} {g : Nat} {T : TypeId} (h : w.heap[g]? = some (.cells askCells T (0, 0))) : HK w (some ⟨g, 0, none⟩) 22 asks := by
  refine ⟨rfl, fun j x hx => ⟨g, 0, rfl, ?_⟩⟩
  have hj : j < 22 := (List.getElem?_eq_some_iff.1 hx).1
  have h0 : j = 0 ∨ j = 1 ∨ j = 2 ∨ j = 3 ∨ j = 4 ∨ j = 5 ∨ j = 6 ∨ j = 7 ∨ j = 8 ∨ j = 9 ∨ j = 10 ∨ j = 11 ∨ j = 12 ∨ j = 13 ∨ j = 14 ∨ j = 15 ∨ j = 16 ∨ j = 17 ∨ j = 18 ∨ j = 19 ∨ j = 20 ∨ j = 21 := by omega
  rcases h0 with rfl | rfl | rfl | rfl | rfl | rfl | rfl | rfl | rfl | rfl | rfl | rfl | rfl | rfl | rfl | rfl | rfl | rfl | rfl | rfl | rfl | rfl <;> (injection hx with hx; subst hx; refine ⟨?_, ?_, ?_, ?_, ?_, ?_⟩ <;> (rw [Lib.cell_of_heap h]; rfl))
theorem build_a0 : ∀ W : World, (Instr.build 29 #[(0, .int .i64 2), (3, .int .i64 1), (4, .int .i64 1)]).run Try.prog W = .ok (.agg #[.int .i64 2, .int .i64 0, .int .i64 0, .int .i64 1, .int .i64 1, .bool false]) W := fun W => by kernel_rfl
theorem build_a1 : ∀ W : World, (Instr.build 29 #[(0, .int .i64 1)]).run Try.prog W = .ok (.agg #[.int .i64 1, .int .i64 0, .int .i64 0, .int .i64 0, .int .i64 0, .bool false]) W := fun W => by kernel_rfl
theorem build_a2 : ∀ W : World, (Instr.build 29 #[(0, .int .i64 2), (4, .int .i64 0)]).run Try.prog W = .ok (.agg #[.int .i64 2, .int .i64 0, .int .i64 0, .int .i64 0, .int .i64 0, .bool false]) W := fun W => by kernel_rfl
theorem build_a3 : ∀ W : World, (Instr.build 29 #[(0, .int .i64 2), (4, .int .i64 1000001)]).run Try.prog W = .ok (.agg #[.int .i64 2, .int .i64 0, .int .i64 0, .int .i64 0, .int .i64 1000001, .bool false]) W := fun W => by kernel_rfl
theorem build_a4 : ∀ W : World, (Instr.build 29 #[(0, .int .i64 2), (3, .int .i64 5), (4, .int .i64 1000000)]).run Try.prog W = .ok (.agg #[.int .i64 2, .int .i64 0, .int .i64 0, .int .i64 5, .int .i64 1000000, .bool false]) W := fun W => by kernel_rfl
theorem build_a5 : ∀ W : World, (Instr.build 29 #[(0, .int .i64 2), (1, .int .i64 1), (3, .int .i64 6), (4, .int .i64 3), (5, .bool true)]).run Try.prog W = .ok (.agg #[.int .i64 2, .int .i64 1, .int .i64 0, .int .i64 6, .int .i64 3, .bool true]) W := fun W => by kernel_rfl
theorem build_a6 : ∀ W : World, (Instr.build 29 #[(0, .int .i64 2), (1, .int .i64 1), (3, .int .i64 7), (4, .int .i64 3)]).run Try.prog W = .ok (.agg #[.int .i64 2, .int .i64 1, .int .i64 0, .int .i64 7, .int .i64 3, .bool false]) W := fun W => by kernel_rfl
theorem build_a7 : ∀ W : World, (Instr.build 29 #[(0, .int .i64 2), (1, .int .i64 2), (3, .int .i64 7), (4, .int .i64 3)]).run Try.prog W = .ok (.agg #[.int .i64 2, .int .i64 2, .int .i64 0, .int .i64 7, .int .i64 3, .bool false]) W := fun W => by kernel_rfl
theorem build_a8 : ∀ W : World, (Instr.build 29 #[(0, .int .i64 3), (2, .int .i64 2), (4, .int .i64 1)]).run Try.prog W = .ok (.agg #[.int .i64 3, .int .i64 0, .int .i64 2, .int .i64 0, .int .i64 1, .bool false]) W := fun W => by kernel_rfl
theorem build_a9 : ∀ W : World, (Instr.build 29 #[(0, .int .i64 3), (2, .int .i64 (-1)), (4, .int .i64 1)]).run Try.prog W = .ok (.agg #[.int .i64 3, .int .i64 0, .int .i64 (-1), .int .i64 0, .int .i64 1, .bool false]) W := fun W => by kernel_rfl
theorem build_a10 : ∀ W : World, (Instr.build 29 #[(0, .int .i64 3), (2, .int .i64 1), (4, .int .i64 4)]).run Try.prog W = .ok (.agg #[.int .i64 3, .int .i64 0, .int .i64 1, .int .i64 0, .int .i64 4, .bool false]) W := fun W => by kernel_rfl
theorem build_a11 : ∀ W : World, (Instr.build 29 #[(0, .int .i64 3), (2, .int .i64 1), (4, .int .i64 0)]).run Try.prog W = .ok (.agg #[.int .i64 3, .int .i64 0, .int .i64 1, .int .i64 0, .int .i64 0, .bool false]) W := fun W => by kernel_rfl
theorem build_a12 : ∀ W : World, (Instr.build 29 #[(0, .int .i64 4), (2, .int .i64 0), (5, .bool true)]).run Try.prog W = .ok (.agg #[.int .i64 4, .int .i64 0, .int .i64 0, .int .i64 0, .int .i64 0, .bool true]) W := fun W => by kernel_rfl
theorem build_a13 : ∀ W : World, (Instr.build 29 #[(0, .int .i64 4), (2, .int .i64 9)]).run Try.prog W = .ok (.agg #[.int .i64 4, .int .i64 0, .int .i64 9, .int .i64 0, .int .i64 0, .bool false]) W := fun W => by kernel_rfl
theorem build_a14 : ∀ W : World, (Instr.build 29 #[(0, .int .i64 3), (2, .int .i64 1), (4, .int .i64 1)]).run Try.prog W = .ok (.agg #[.int .i64 3, .int .i64 0, .int .i64 1, .int .i64 0, .int .i64 1, .bool false]) W := fun W => by kernel_rfl
theorem build_a15 : ∀ W : World, (Instr.build 29 #[(0, .int .i64 3), (2, .int .i64 1), (4, .int .i64 2)]).run Try.prog W = .ok (.agg #[.int .i64 3, .int .i64 0, .int .i64 1, .int .i64 0, .int .i64 2, .bool false]) W := fun W => by kernel_rfl
theorem build_a16 : ∀ W : World, (Instr.build 29 #[(0, .int .i64 4), (2, .int .i64 1)]).run Try.prog W = .ok (.agg #[.int .i64 4, .int .i64 0, .int .i64 1, .int .i64 0, .int .i64 0, .bool false]) W := fun W => by kernel_rfl
theorem build_a17 : ∀ W : World, (Instr.build 29 #[(0, .int .i64 2), (3, .int .i64 8), (4, .int .i64 2)]).run Try.prog W = .ok (.agg #[.int .i64 2, .int .i64 0, .int .i64 0, .int .i64 8, .int .i64 2, .bool false]) W := fun W => by kernel_rfl
theorem build_a18 : ∀ W : World, (Instr.build 29 #[(0, .int .i64 3), (4, .int .i64 1000000)]).run Try.prog W = .ok (.agg #[.int .i64 3, .int .i64 0, .int .i64 0, .int .i64 0, .int .i64 1000000, .bool false]) W := fun W => by kernel_rfl
theorem build_a19 : ∀ W : World, (Instr.build 29 #[(0, .int .i64 2), (3, .int .i64 9), (4, .int .i64 2)]).run Try.prog W = .ok (.agg #[.int .i64 2, .int .i64 0, .int .i64 0, .int .i64 9, .int .i64 2, .bool false]) W := fun W => by kernel_rfl
theorem AR.belowB {B Bb cb : Nat} {Fb : Nat → Prop} {st : St} {w w' : World} (h : AR Bb cb Fb st w) (hF : ∀ k, Fb k → k < B) (D : Below B w w') : AR Bb cb Fb st w' :=
  h.only (p := fun k => B ≤ k) ⟨D.os, D.tape, D.output, D.size, fun k _ hn => D.block k (by omega)⟩ (fun k hk e => by have := hF k hk; omega)
theorem keep_block {F G F' G' : Nat → Prop} {w w' : World} {g : Nat} (h : Frame F G F' G' w w') (hg : g < w.heap.size) (hF : ¬ F g) (hG : ¬ G g) : w'.heap[g]? = w.heap[g]? ∧ ¬ F' g ∧ ¬ G' g :=
  ⟨h.only.block g hg (fun e => e.elim hF hG), fun e => by rcases h.new g (.inl e) with x | x | x; exact hF x; exact hG x; omega, fun e => by rcases h.new g (.inr e) with x | x | x; exact hF x; exact hG x; omega⟩
theorem New_4096 (w : World) : Calls Try.prog 8 #[.int .i64 4096] w fun e w' => ∃ c F, e = .returned (.tuple #[.pointer (some ⟨c, 0, none⟩), .int .i64 0]) ∧ AR w.heap.size c F (newS 4096) w' ∧ Below w.heap.size w w' := New_yes 4096 w (by omega) (by omega)
theorem New_2 (w : World) : Calls Try.prog 8 #[.int .i64 2] w fun e w' => ∃ c F, e = .returned (.tuple #[.pointer (some ⟨c, 0, none⟩), .int .i64 0]) ∧ AR w.heap.size c F (newS 2) w' ∧ Below w.heap.size w w' := New_yes 2 w (by omega) (by omega)
theorem RNew_2 (w : World) : Calls Try.prog 9 #[.int .i64 2] w fun e w' => ∃ c F, e = .returned (.pointer (some ⟨c, 0, none⟩)) ∧ RA w.heap.size c F (newS 2) w' ∧ Below w.heap.size w w' := RNew_any 2 w (by omega)
set_option maxRecDepth 100000 in
set_option maxHeartbeats 4000000 in
theorem Numbers_walk (w : World) :
    Calls Try.prog 3 #[] w fun e w' => e = .returned (.bool true) ∧ Below w.heap.size w w' := by
  obtain ⟨B0, eB0⟩ : ∃ B, w.heap.size = B := ⟨_, rfl⟩
  have eB0' := Lib.hid eB0
  have hq0 : Hid ((newS 2).Q.length ≤ 0) := Lib.hid (Nat.le_refl _)
  have hfree : Hid ((((newS 4096).U.count false : Nat) : Int) = 4096) := Lib.hid (by rw [show (newS 4096).U = List.replicate 4096 false from rfl, List.count_replicate]; rfl)
  have big4 : Hid (4096 = 4096) := Lib.hid rfl
  clear eB0
  go_enter Try.func3, Try.ntmps3
  go_wp2_with fail
  refine (New_no 0 w (.inl (by omega))).mono ?_
  rintro e w1 ⟨rfl, rfl⟩
  go_wp2_with fail
  refine (New_no 4097 w (.inr (by omega))).mono ?_
  rintro e w1 ⟨rfl, rfl⟩
  go_wp2_with fail
  refine (New_4096 w).mono ?_
  rintro e w1 ⟨cb, Fb, rfl, ab, bb⟩
  replace ab := Lib.hid ab
  obtain ⟨st0, est0⟩ : ∃ s, newS 4096 = s := ⟨_, rfl⟩
  rw [est0] at ab hfree
  replace bb := Lib.hid bb
  clear est0
  go_wp2_with fail
  refine (New_2 w1).mono ?_
  rintro e w2 ⟨c, F, rfl, a1, b1⟩
  obtain ⟨B, eB⟩ : ∃ B, w1.heap.size = B := ⟨_, rfl⟩
  rw [eB] at a1 b1
  have abF : Hid (∀ k, Fb k → k < B) := Lib.hid (fun k hk => by have := (ab.out.lt hk).2; omega)
  have ab2 := Lib.hid (ab.out.only (p := fun _ => False) (only_below (by rw [eB]; exact b1)) (fun _ _ e => e))
  have s0 : Hid (B0 ≤ B) := Lib.hid (by rw [← eB, ← eB0'.out]; exact bb.out.size)
  have Bw : Hid (Below B0 w w2) := Lib.hid (by rw [← eB0'.out]; exact bb.out.trans (b1.mono (by rw [eB0'.out]; exact s0.out)))
  have s1 : Hid (B ≤ w2.heap.size) := Lib.hid (by rw [← eB]; exact b1.size)
  replace eB := Lib.hid eB
  replace a1 := Lib.hid a1
  clear ab b1 bb
  go_wp2_with fail
  refine (RNew_2 w2).mono ?_
  rintro e w3 ⟨d, G, rfl, a2, b2⟩
  have h2 := Lib.hid (both_new a1.out a2 b2 s1.out)
  have ab3 := Lib.hid (ab2.out.below b2)
  have Bw3 := Lib.hid (Bw.out.trans (b2.mono (by have := s0.out; have := s1.out; omega)))
  obtain ⟨st, est⟩ : ∃ st, newS 2 = st := ⟨_, rfl⟩
  rw [est] at h2 hq0
  clear est a1 a2 b2 ab2 Bw
  have ba0 := build_a0
  have ba1 := build_a1
  have ba2 := build_a2
  have ba3 := build_a3
  have ba4 := build_a4
  have ba5 := build_a5
  have ba6 := build_a6
  have ba7 := build_a7
  have ba8 := build_a8
  have ba9 := build_a9
  have ba10 := build_a10
  have ba11 := build_a11
  have ba12 := build_a12
  have ba13 := build_a13
  have ba14 := build_a14
  have ba15 := build_a15
  have ba16 := build_a16
  have ba17 := build_a17
  have ba18 := build_a18
  have ba19 := build_a19
  go_wp2_with fail
  obtain ⟨W4, eW4⟩ : ∃ X, w3.alloc (.cells #[.int .i64 2, .int .i64 0, .int .i64 0, .int .i64 1, .int .i64 1, .bool false, .int .i64 1, .int .i64 0, .int .i64 0, .int .i64 0, .int .i64 0, .bool false, .int .i64 2, .int .i64 0, .int .i64 0, .int .i64 0, .int .i64 0, .bool false, .int .i64 2, .int .i64 0, .int .i64 0, .int .i64 0, .int .i64 1000001, .bool false, .int .i64 2, .int .i64 0, .int .i64 0, .int .i64 5, .int .i64 1000000, .bool false, .int .i64 1, .int .i64 0, .int .i64 0, .int .i64 0, .int .i64 0, .bool false, .int .i64 2, .int .i64 1, .int .i64 0, .int .i64 6, .int .i64 3, .bool true, .int .i64 2, .int .i64 1, .int .i64 0, .int .i64 7, .int .i64 3, .bool false, .int .i64 2, .int .i64 2, .int .i64 0, .int .i64 7, .int .i64 3, .bool false, .int .i64 3, .int .i64 0, .int .i64 2, .int .i64 0, .int .i64 1, .bool false, .int .i64 3, .int .i64 0, .int .i64 (-1), .int .i64 0, .int .i64 1, .bool false, .int .i64 3, .int .i64 0, .int .i64 1, .int .i64 0, .int .i64 4, .bool false, .int .i64 3, .int .i64 0, .int .i64 1, .int .i64 0, .int .i64 0, .bool false, .int .i64 4, .int .i64 0, .int .i64 0, .int .i64 0, .int .i64 0, .bool true, .int .i64 4, .int .i64 0, .int .i64 9, .int .i64 0, .int .i64 0, .bool false, .int .i64 3, .int .i64 0, .int .i64 1, .int .i64 0, .int .i64 1, .bool false, .int .i64 3, .int .i64 0, .int .i64 1, .int .i64 0, .int .i64 2, .bool false, .int .i64 3, .int .i64 0, .int .i64 1, .int .i64 0, .int .i64 1, .bool false, .int .i64 4, .int .i64 0, .int .i64 1, .int .i64 0, .int .i64 0, .bool false, .int .i64 2, .int .i64 0, .int .i64 0, .int .i64 8, .int .i64 2, .bool false, .int .i64 3, .int .i64 0, .int .i64 0, .int .i64 0, .int .i64 1000000, .bool false, .int .i64 2, .int .i64 0, .int .i64 0, .int .i64 9, .int .i64 2, .bool false] 29) = X := ⟨_, rfl⟩
  obtain ⟨g, eg⟩ : ∃ g, w3.heap.size = g := ⟨_, rfl⟩
  rw [eW4, eg]
  have hb4 : Below w3.heap.size w3 W4 := by rw [← eW4]; exact (Below.refl _ _).alloc (Nat.le_refl _) _
  have C4 : Hid (W4.heap[g]? = some (.cells askCells 29 (0, 0))) := Lib.hid (by rw [← eW4, ← eg]; exact heap_alloc_new w3 _)
  have h4 := Lib.hid (h2.out.below hb4)
  have D4 : Hid (Below B w3 W4) := Lib.hid (hb4.mono (by have := h2.out.size; omega))
  have N4 : Hid (¬ F g ∧ ¬ G g) := Lib.hid ⟨fun e => by have := (h2.out.a.lt e).2; omega, fun e => by have := (h2.out.r.lt e).2; omega⟩
  have sz3 := Lib.hid h2.out.size
  clear eW4 eg hb4 h2 ba0 ba1 ba2 ba3 ba4 ba5 ba6 ba7 ba8 ba9 ba10 ba11 ba12 ba13 ba14 ba15 ba16 ba17 ba18 ba19
  go_loopw [67] (fun iv wr => ∃ (i : Nat) (st : St) (F G : Nat → Prop), iv = .int .i64 i ∧ i ≤ 22 ∧ Hid (Both B c d F G st wr) ∧ Hid (st.Q.length ≤ i) ∧ Hid (Below B w3 wr) ∧ Hid (wr.heap[g]? = some (.cells askCells 29 (0, 0))) ∧ Hid (¬ F g ∧ ¬ G g)) (fun iv _ => (22 - intOf iv).toNat)
  case atStart => exact ⟨0, st, F, G, rfl, by omega, h4, hq0, D4, C4, N4⟩
  case round =>
    clear h4 hq0 D4 C4 N4
    obtain ⟨i, st, F, G, rfl, hi, hB, hq, hD, hC, hN⟩ := hrel
    by_cases hlt : i < 22
    · have d1 : decide (i < 22) = true := decide_eq_true hlt
      have d1' : decide ((i : Int) < 22) = true := decide_eq_true (by omega)
      obtain ⟨x, hx⟩ : ∃ x, asks[i]? = some x := ⟨_, List.getElem?_eq_getElem (by show i < 22; exact hlt)⟩
      have hxo := asks_ok x (List.mem_of_getElem? hx)
      obtain ⟨b', off, eb, x0, x1, x2, x3, x4, x5⟩ := (asks_at hC.out).2 i x hx
      injection eb with eb
      injection eb with eb1 eb2
      subst eb1
      subst eb2
      have hst := askO_q st x
      have hq2 : st.Q.length ≤ 100000 := by have := hq.out; omega
      have HD := Lib.hid (fun (W : World) (h : Both B c d F G st W) => Do_any B c d F G st x W (Lib.hid h) hq2 (Lib.hid hxo))
      have hq3 : Hid ((askO st x).Q.length ≤ i + 1) := Lib.hid (by have := hq.out; omega)
      obtain ⟨st2, es2⟩ : ∃ s, askO st x = s := ⟨_, rfl⟩
      rw [es2] at HD hq3
      obtain ⟨k', q', s', i', n', t'⟩ := x
      rw [show Ask.val ⟨k', q', s', i', n', t'⟩ = .agg #[.int .i64 k', .int .i64 q', .int .i64 s', .int .i64 i', .int .i64 n', .bool t'] from rfl] at HD
      simp only at x0 x1 x2 x3 x4 x5
      rw [Nat.zero_add] at x0 x1 x2 x3 x4 x5
      clear hx hxo hst es2
      go_upto_region 11 with (fail)
      obtain ⟨W5, eW5⟩ : ∃ X, wr.alloc (.cells #[.int .i64 k', .int .i64 q', .int .i64 s', .int .i64 i', .int .i64 n', .bool t'] 29) = X := ⟨_, rfl⟩
      obtain ⟨gx, egx⟩ : ∃ g, wr.heap.size = g := ⟨_, rfl⟩
      rw [eW5, egx]
      have hb5 : Below wr.heap.size wr W5 := by rw [← eW5]; exact (Below.refl _ _).alloc (Nat.le_refl _) _
      have hgl : g < wr.heap.size := (Array.getElem?_eq_some_iff.1 hC.out).1
      have C5 : W5.heap[gx]? = some (.cells #[.int .i64 k', .int .i64 q', .int .i64 s', .int .i64 i', .int .i64 n', .bool t'] 29 (0, 0)) := by rw [← eW5, ← egx]; exact heap_alloc_new wr _
      have h5 := Lib.hid (hB.out.below hb5)
      have D5 := Lib.hid (hD.out.trans (hb5.mono hB.out.size))
      have G5 : Hid (W5.heap[g]? = some (.cells askCells 29 (0, 0))) := Lib.hid ((hb5.block g hgl).trans hC.out)
      clear eW5 egx hb5 hgl x0 x1 x2 x3 x4 x5 hB hD hC
      obtain ⟨x0, x1, x2, x3, x4, x5⟩ := row6 C5
      clear C5
      go_wp2_with fail
      refine (HD.out W5 h5.out).mono ?_
      rintro e w6 ⟨F3, G3, rfl, h3, b3, fr⟩
      have hg6 := keep_block fr (Array.getElem?_eq_some_iff.1 G5.out).1 hN.out.1 hN.out.2
      have N6 := Lib.hid hg6.2
      have G6 := Lib.hid (hg6.1.trans G5.out)
      replace h3 := Lib.hid h3
      have D6 := Lib.hid (D5.out.trans b3)
      clear b3 fr hg6 HD x0 x1 x2 x3 x4 x5 G5 D5 h5
      go_wp2_with fail
      refine (Alike_any B c d F3 G3 st2 2 w6 h3 (by have := hq3.out; omega) ⟨by omega, by omega⟩).mono ?_
      rintro e w7 ⟨rfl, b7⟩
      have h7 := Lib.hid (h3.out.below b7)
      have D7 := Lib.hid (D6.out.trans (b7.mono h3.out.size))
      have G7 := Lib.hid ((b7.block g (Array.getElem?_eq_some_iff.1 G6.out).1).trans G6.out)
      clear b7
      go_wp2_with fail
      go_roundw
      case rel => exact ⟨i + 1, st2, F3, G3, by go_num, by omega, h7, hq3, D7, G7, N6⟩
      case measure => simp [intOf]; omega
    · obtain rfl : i = 22 := by omega
      have d1 : decide ((22 : Nat) < 22) = false := by simp
      have HF := Free_any _ cb Fb st0 wr (Lib.hid (ab3.out.belowB abF.out hD.out))
      rw [hfree.out] at HF
      replace HF := Lib.hid HF
      have HK := Lib.hid (Known_any wr)
      have fin : Hid (∀ w', Below wr.heap.size wr w' → Below w.heap.size w w') := Lib.hid (fun w' b => by
        rw [eB0'.out]
        have s := s0.out
        have s3 := sz3.out
        exact (Bw3.out.trans (hD.out.mono s)).trans (b.mono (by have := hD.out.size; omega)))
      clear hi hlt
      go_wp2_with fail
      refine HF.out.mono ?_
      rintro e w5 ⟨rfl, rfl⟩
      go_wp2_with fail
      refine HK.out.mono ?_
      rintro e w5 ⟨rfl, b5⟩
      go_wp2_with fail
      go_ret
      exact ⟨rfl, fin.out _ b5⟩
end Go.Proofs.Ytcfmnmknbebfnaa

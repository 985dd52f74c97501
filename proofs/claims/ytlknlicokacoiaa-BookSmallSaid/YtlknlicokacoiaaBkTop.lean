/-
  The book as the statements see it: one list of orders.
-/
import Derived.Test.YtlknlicokacoiaaBkAdd
import Derived.Test.YtlknlicokacoiaaBkFill2
import Derived.Test.YtlknlicokacoiaaBkLad
import Derived.Test.YtlknlicokacoiaaBkOrds
namespace Go.Proofs.Ytlknlicokacoiaa
open Go.RowKit
set_option linter.unusedVariables false
set_option linter.unusedSimpArgs false

/-- The book in block b tells these orders; its blocks, all of number B or later, are G. -/
def BK (B b : Nat) (G : Nat → Prop) (L : List Or) (w : World) : Prop := ∃ a F V vs c, Wb B b a F V vs c w ∧ CInv noEx c ∧ c.abs = L ∧ c.st.Q.length ≤ 250 ∧ G = wfoot b F V vs
section
variable {B b : Nat} {G : Nat → Prop} {L : List Or} {w w' : World}
theorem BK.lt (h : BK B b G L w) {k : Nat} (hk : G k) : B ≤ k ∧ k < w.heap.size := by
  obtain ⟨a, F, V, vs, c, hW, -, -, -, rfl⟩ := h; exact hW.lt hk
theorem BK.only {p : Nat → Prop} (h : BK B b G L w) (ho : Only p w w') (hp : ∀ k, G k → ¬ p k) : BK B b G L w' := by
  obtain ⟨a, F, V, vs, c, hW, h1, h2, h3, rfl⟩ := h; exact ⟨a, F, V, vs, c, hW.only ho hp, h1, h2, h3, rfl⟩
theorem BK.below (h : BK B b G L w) (hb : Below w.heap.size w w') : BK B b G L w' := h.only (only_below hb) (fun _ _ e => e)
theorem BK.after (h : BK B b G L w) {D : Nat} (hb : Below D w w') (hD : ∀ k, G k → k < D) : BK B b G L w' := h.only (only_above hb) (fun k hk e => by have := hD k hk; omega)
theorem BK.lok (h : BK B b G L w) : LOk L := by
  obtain ⟨a, F, V, vs, c, hW, h1, rfl, h3, rfl⟩ := h; exact h1.lok
theorem BK.self (h : BK B b G L w) : G b := by
  obtain ⟨a, F, V, vs, c, hW, h1, h2, h3, rfl⟩ := h; exact .inr (.inl rfl)
theorem BK.size (h : BK B b G L w) : B ≤ w.heap.size := by have := h.lt h.self; omega
end
def BStep (B b : Nat) (G : Nat → Prop) (r : Int × List Or) (w : World) (e : Ending) (w' : World) : Prop := ∃ G', e = .returned (.int .i64 r.1) ∧ BK B b G' r.2 w' ∧ Only G w w' ∧ (∀ k, G' k → G k ∨ w.heap.size ≤ k)
theorem BAdd_any (B b : Nat) (G : Nat → Prop) (L : List Or) (i s p n : Int) (w : World) (h : Hid (BK B b G L w)) (hi : Hid (I64 i)) (hp : Hid (I64 p)) :
    Calls Try.prog 14 #[.pointer (some ⟨b, 0, none⟩), .int .i64 i, .int .i64 s, .int .i64 p, .int .i64 n] w (BStep B b G (addO L i s p n) w) := by
  obtain ⟨a, F, V, vs, c, hW, h1, rfl, h3, rfl⟩ := h.out
  refine (Add_any B b a F V vs c i s p n w (Lib.hid hW) (Lib.hid h1) hi hp h3).mono ?_
  rintro e w' ⟨F', V', vs', c', rfl, k1, k2, k3, k4, k5, k6⟩
  exact ⟨_, rfl, ⟨a, F', V', vs', c', k1, k2, k3, k4, rfl⟩, k5, k6⟩
theorem BFill_any (B b : Nat) (G : Nat → Prop) (L : List Or) (i n : Int) (w : World) (h : Hid (BK B b G L w)) (hn : I64 n) :
    Calls Try.prog 18 #[.pointer (some ⟨b, 0, none⟩), .int .i64 i, .int .i64 n] w (BStep B b G (fillO L i n) w) := by
  obtain ⟨a, F, V, vs, c, hW, h1, rfl, h3, rfl⟩ := h.out
  refine (Fill_any B b a F V vs c i n w (Lib.hid hW) (Lib.hid h1) hn h3).mono ?_
  rintro e w' ⟨V', vs', c', rfl, k1, k2, k3, k4, k5, k6⟩
  exact ⟨_, rfl, ⟨a, F, V', vs', c', k1, k2, k3, by omega, rfl⟩, k5, fun k hk => by
    rcases hk with e | e
    · exact .inl (.inl e)
    · exact (k6 k e).imp .inr id⟩
theorem BFind_any (B b : Nat) (G : Nat → Prop) (L : List Or) (i : Int) (w : World) (h : Hid (BK B b G L w)) :
    Calls Try.prog 17 #[.pointer (some ⟨b, 0, none⟩), .int .i64 i] w fun e w' => e = .returned (.tuple #[(findO L i).1.val, .bool (findO L i).2]) ∧ Below w.heap.size w w' := by
  obtain ⟨a, F, V, vs, c, hW, h1, rfl, h3, rfl⟩ := h.out
  exact Find_any B b a F V vs c i w (Lib.hid hW) (Lib.hid h1)
theorem BBest_any (B b : Nat) (G : Nat → Prop) (L : List Or) (s : Int) (w : World) (h : Hid (BK B b G L w)) :
    Calls Try.prog 22 #[.pointer (some ⟨b, 0, none⟩), .int .i64 s] w fun e w' => e = .returned (.tuple #[(bestO L s).1.val, .bool (bestO L s).2]) ∧ Below w.heap.size w w' := by
  obtain ⟨a, F, V, vs, c, hW, h1, rfl, h3, rfl⟩ := h.out
  exact Best_any B b a F V vs c s w (Lib.hid hW) (Lib.hid h1) h3
theorem BAt_any (B b : Nat) (G : Nat → Prop) (L : List Or) (s p : Int) (w : World) (h : Hid (BK B b G L w)) :
    Calls Try.prog 20 #[.pointer (some ⟨b, 0, none⟩), .int .i64 s, .int .i64 p] w (AppPost w.heap.size (atO L s p) w) := by
  obtain ⟨a, F, V, vs, c, hW, h1, rfl, h3, rfl⟩ := h.out
  exact At_any B b a F V vs c s p w (Lib.hid hW) (Lib.hid h1) h3
theorem BLadder_any (B b : Nat) (G : Nat → Prop) (L : List Or) (s : Int) (w : World) (h : Hid (BK B b G L w)) :
    Calls Try.prog 19 #[.pointer (some ⟨b, 0, none⟩), .int .i64 s] w (LadPost w.heap.size (ladO L s) w) := by
  obtain ⟨a, F, V, vs, c, hW, h1, rfl, h3, rfl⟩ := h.out
  exact Ladder_any B b a F V vs c s w (Lib.hid hW) (Lib.hid h1) h3
theorem BOrders_any (B b : Nat) (G : Nat → Prop) (L : List Or) (w : World) (h : Hid (BK B b G L w)) :
    Calls Try.prog 21 #[.pointer (some ⟨b, 0, none⟩)] w (AppPost w.heap.size L w) := by
  obtain ⟨a, F, V, vs, c, hW, h1, rfl, h3, rfl⟩ := h.out
  exact Orders_any B b a F V vs c w (Lib.hid hW) (Lib.hid h1) h3
theorem BkCount_any (B b : Nat) (G : Nat → Prop) (L : List Or) (w : World) (h : Hid (BK B b G L w)) :
    Calls Try.prog 13 #[.pointer (some ⟨b, 0, none⟩)] w fun e w' => e = .returned (.int .i64 (L.length : Nat)) ∧ w = w' := by
  obtain ⟨a, F, V, vs, c, hW, h1, rfl, h3, rfl⟩ := h.out
  exact BCount_any B b a F V vs c w (Lib.hid hW) (Lib.hid h1)
end Go.Proofs.Ytlknlicokacoiaa

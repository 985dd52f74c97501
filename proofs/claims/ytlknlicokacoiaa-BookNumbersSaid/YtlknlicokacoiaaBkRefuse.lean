/-
  Contracts: refusal, Count, of book.
-/
import Derived.Test.YtlknlicokacoiaaBkEntry
namespace Go.Proofs.Ytlknlicokacoiaa
open Go.RowKit
set_option linter.unusedVariables false
set_option linter.unusedSimpArgs false

def refO (L : List Or) (i s n : Int) : Int :=
  if sideB s = false then 21 else if n < 1 ∨ 1000000 < n then 24 else if hasI L i = true then 25 else if 250 ≤ L.length then 13 else 0
theorem addO_ref (L : List Or) (i s p n : Int) : addO L i s p n = if refO L i s n = 0 then (0, insO L i s p n) else (refO L i s n, L) := by
  unfold addO refO sideB
  by_cases h1 : (s = 1 ∨ s = 2) <;> by_cases h2 : (n < 1 ∨ 1000000 < n) <;> by_cases h3 : hasI L i = true <;> by_cases h4 : 250 ≤ L.length <;> simp [h1, h2, h3, h4]
/-- What entry finds is what the list of orders holds. -/
theorem CInv.entry {ex : Nat → Prop} {c : Cs} (h : CInv ex c) {i : Int} {e : En} {ok : Bool} (he : EntryIs c.st i e ok) : hasI c.abs i = ok := by
  rcases he with ⟨rfl, hi, q, A, C, hq⟩ | ⟨rfl, -, hno⟩
  · obtain ⟨s, X, Y, p, hs, hR⟩ := h.row hq (by simp)
    have hm : ordE s p e ∈ c.abs := abs_mem hs (r := (p, q)) (by rw [hR]; simp) (by show e ∈ lq c.st q; rw [lq_of hq]; simp)
    exact hasI_yes hm hi
  · refine hasI_no (fun x hx => ?_)
    obtain ⟨s, r, e', hs, hr, he', rfl⟩ := mem_abs hx
    exact hno r.2 _ (lq_some (lq_lt he')) e' he'
set_option maxRecDepth 100000 in
set_option maxHeartbeats 1000000 in
theorem Refusal_any (B b a : Nat) (F : Nat → Prop) (V : Nat → Value) (vs : Value) (c : Cs) (i s n : Int) (w : World) (hW : Hid (Wb B b a F V vs c w)) (hI : Hid (CInv noEx c)) :
    Calls Try.prog 35 #[.pointer (some ⟨b, 0, none⟩), .int .i64 i, .int .i64 s, .int .i64 n] w fun e w' => e = .returned (.int .i64 (refO c.abs i s n)) ∧ Below w.heap.size w w' := by
  have HS := Lib.hid (IsSide_any s w)
  have HE := Lib.hid (Entry_any B b a F V vs c i w hW (Lib.hid hI.out.ok) (Lib.hid hI.out.room))
  have bs : Hid (Below w.heap.size w w) := Lib.hid (Below.refl _ _)
  obtain ⟨R, eR⟩ : ∃ R, refO c.abs i s n = R := ⟨_, rfl⟩
  rw [eR]
  by_cases h1 : sideB s = false
  · rw [h1] at HS
    have : R = 21 := by rw [← eR]; unfold refO; rw [if_pos h1]
    subst this
    clear eR h1
    go_enter Try.func35, Try.ntmps35
    go_wp2_with fail
    refine HS.out.mono ?_
    rintro e w' ⟨rfl, rfl⟩
    go_wp2_with fail
    go_ret
    exact ⟨rfl, bs.out⟩
  · have h1' : sideB s = true := by simpa using h1
    rw [h1'] at HS
    by_cases h2 : n < 1
    · have : R = 24 := by rw [← eR]; unfold refO; rw [if_neg h1, if_pos (.inl h2)]
      subst this
      have d1 : decide (n < 1) = true := decide_eq_true h2
      clear eR h1
      go_enter Try.func35, Try.ntmps35
      go_wp2_with fail
      refine HS.out.mono ?_
      rintro e w' ⟨rfl, rfl⟩
      go_wp2_with fail
      go_ret
      exact ⟨rfl, bs.out⟩
    · have d1 : decide (n < 1) = false := decide_eq_false h2
      by_cases h3 : 1000000 < n
      · have : R = 24 := by rw [← eR]; unfold refO; rw [if_neg h1, if_pos (.inr h3)]
        subst this
        have d2 : decide (n > 1000000) = true := decide_eq_true h3
        clear eR h1
        go_enter Try.func35, Try.ntmps35
        go_wp2_with fail
        refine HS.out.mono ?_
        rintro e w' ⟨rfl, rfl⟩
        go_wp2_with fail
        go_ret
        exact ⟨rfl, bs.out⟩
      · have d2 : decide (n > 1000000) = false := decide_eq_false h3
        have d3 : ¬ n > 1000000 := h3
        have e3 : R = if hasI c.abs i = true then 25 else if 250 ≤ c.abs.length then 13 else 0 := by rw [← eR]; unfold refO; rw [if_neg h1, if_neg (by omega)]
        replace e3 := Lib.hid e3
        clear eR h1
        go_enter Try.func35, Try.ntmps35
        go_wp2_with fail
        refine HS.out.mono ?_
        rintro e w' ⟨rfl, rfl⟩
        go_wp2_with fail
        refine HE.out.mono ?_
        rintro e w1 ⟨x, ok, rfl, hx, b1⟩
        have hi := hI.out.entry hx
        obtain ⟨xs, xi, xn, xt⟩ := x
        simp only [En.val]
        replace b1 := Lib.hid b1
        replace hx := Lib.hid hx
        cases ok with
        | true =>
          have e4 : Hid (R = 25) := Lib.hid (by rw [e3.out, if_pos hi])
          clear hi e3
          go_wp2_with fail
          go_ret
          exact ⟨by rw [e4.out]; rfl, b1.out.alloc b1.out.size _⟩
        | false =>
          have e4 : Hid (R = if 250 ≤ c.abs.length then 13 else 0) := Lib.hid (by rw [e3.out, if_neg (by rw [hi]; decide)])
          clear hi e3
          obtain ⟨W2, eW2⟩ : ∃ W, w1.alloc (.cells #[.int .i64 (xs : Int), .int .i64 xi, .int .i64 xn, .bool xt] 90) = W := ⟨_, rfl⟩
          have b2 : Hid (Below w.heap.size w W2) := Lib.hid (by rw [← eW2]; exact b1.out.alloc b1.out.size _)
          have hW2 := Lib.hid (hW.out.below b2.out)
          obtain ⟨x0, -⟩ := hW2.out.bm.arena
          have HF := Lib.hid (Free_any B a F c.st W2 (Lib.hid hW2.out.ar))
          have hfr := hI.out.free
          obtain ⟨fr, efr⟩ : ∃ f, c.st.U.count false = f := ⟨_, rfl⟩
          rw [efr] at HF hfr
          obtain ⟨ln, eln⟩ : ∃ f, c.abs.length = f := ⟨_, rfl⟩
          rw [eln] at hfr e4
          clear efr eln
          by_cases h5 : fr = 0
          · have e5 : Hid (R = 13) := Lib.hid (by rw [e4.out, if_pos (by omega)])
            subst h5
            clear e4
            go_wp2_with fail
            refine HF.out.mono ?_
            rintro e w3 ⟨rfl, rfl⟩
            go_wp2_with fail
            go_ret
            exact ⟨by rw [e5.out]; rfl, b2.out⟩
          · have e5 : Hid (R = 0) := Lib.hid (by rw [e4.out, if_neg (by omega)])
            have d5 : ((fr : Int) == 0) = false := by simpa using h5
            have d6 : ¬ (fr : Int) = 0 := by omega
            clear e4
            go_wp2_with fail
            refine HF.out.mono ?_
            rintro e w3 ⟨rfl, rfl⟩
            go_wp2_with fail
            go_ret
            exact ⟨by rw [e5.out]; rfl, b2.out⟩
set_option maxRecDepth 100000 in
theorem BCount_any (B b a : Nat) (F : Nat → Prop) (V : Nat → Value) (vs : Value) (c : Cs) (w : World) (hW : Hid (Wb B b a F V vs c w)) (hI : Hid (CInv noEx c)) :
    Calls Try.prog 13 #[.pointer (some ⟨b, 0, none⟩)] w fun e w' => e = .returned (.int .i64 (c.abs.length : Nat)) ∧ w = w' := by
  obtain ⟨x0, -⟩ := hW.out.bm.arena
  have HF := Lib.hid (Free_any B a F c.st w (Lib.hid hW.out.ar))
  have hfr := hI.out.free
  obtain ⟨fr, efr⟩ : ∃ f, c.st.U.count false = f := ⟨_, rfl⟩
  rw [efr] at HF hfr
  obtain ⟨ln, eln⟩ : ∃ f, c.abs.length = f := ⟨_, rfl⟩
  rw [eln] at hfr ⊢
  have d1 : IntKind.i64.wrap (250 - (fr : Int)) = (ln : Int) := by rw [show (250 : Int) - (fr : Int) = (ln : Int) by omega]; exact IntWalk.i64_in _ (by omega)
  have d2 : (250 : Int) - (fr : Int) = (ln : Int) := by omega
  clear efr eln
  go_enter Try.func13, Try.ntmps13
  go_wp2_with fail
  refine HF.out.mono ?_
  rintro e w3 ⟨rfl, rfl⟩
  go_wp2_with fail
  go_ret
  exact ⟨rfl, rfl⟩
end Go.Proofs.Ytlknlicokacoiaa

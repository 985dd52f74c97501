/-
  The walk of BookPlays.
-/
import Derived.Test.YtlknlicokacoiaaBkAlike
namespace Go.Proofs.Ytlknlicokacoiaa
open Go.RowKit
set_option linter.unusedVariables false
set_option linter.unusedSimpArgs false
set_option linter.constructorNameAsVariable false

theorem build_rbook : ∀ W : World, (Instr.build 27 #[]).run Try.prog W = .ok (.agg #[.slice none 0 0]) W := fun W => by kernel_rfl
/-- Both books, new. -/
theorem pair_new {B b : Nat} {G : Nat → Prop} {w w1 : World} (k : BK B b G [] w1) : PairAt B w1.heap.size b w1.heap.size G (.slice none 0 0) [] (w1.alloc (.cells #[.slice none 0 0] 27)) :=
  ⟨k.below ((Below.refl _ _).alloc (Nat.le_refl _) _), ⟨heap_alloc_new w1 _, own_nil _ _ _, Nat.le_refl _, (fun e => by cases e)⟩, fun j hj e => (by
    rcases e with e | e
    · have := (k.lt hj).2; omega
    · cases e), k.size⟩
set_option maxRecDepth 100000 in
set_option maxHeartbeats 8000000 in
theorem BPlays_walk (A : Option Addr) (n cap : Nat) (L : List Ask) (w : World) (hA : Hid (HK w A n L)) (hAt : Hid (∀ ad, A = some ad → ad.block < w.heap.size)) (hO : Hid (OkK L)) (p1 : n ≤ cap) (p2 : cap ≤ 9223372036854775807) :
    Calls Try.prog 4 #[.slice A n cap] w fun e w' => e = .returned (.bool true) ∧ Below w.heap.size w w' := by
  have HN := Lib.hid (BNew_any w)
  obtain ⟨B, eB⟩ : ∃ B, w.heap.size = B := ⟨_, rfl⟩
  unfold NewBK at HN
  rw [eB] at HN hAt ⊢
  replace eB := Lib.hid eB
  have hbr := build_rbook
  go_enter Try.func4, Try.ntmps4
  go_wp2_with fail
  refine HN.out.mono ?_
  rintro e w1 ⟨b, G, rfl, a1, b1⟩
  have hp := pair_new (w := w) a1
  have hb2 : Below w1.heap.size w1 (w1.alloc (.cells #[.slice none 0 0] 27)) := (Below.refl _ _).alloc (Nat.le_refl _) _
  obtain ⟨W2, eW2⟩ : ∃ X, w1.alloc (.cells #[.slice none 0 0] 27) = X := ⟨_, rfl⟩
  obtain ⟨d, ed⟩ : ∃ x, w1.heap.size = x := ⟨_, rfl⟩
  rw [eW2] at hp hb2
  rw [ed] at hp
  have hP0 := Lib.hid hp
  have hB0 : Hid (Below B w W2) := Lib.hid (b1.trans (hb2.mono a1.size))
  clear hp hb2 a1 b1
  go_wp2_with fail
  go_loopw [5] (fun iv wr => ∃ (i : Nat) (G : Nat → Prop) (v : Value) (L0 : List Or), iv = .int .i64 i ∧ i ≤ n ∧ i ≤ 60 ∧ Hid (PairAt B d b d G v L0 wr) ∧ Hid (Below B w wr)) (fun iv _ => (60 - intOf iv).toNat)
  case atStart => exact ⟨0, G, .slice none 0 0, [], rfl, by omega, by omega, hP0, hB0⟩
  case round =>
    clear hP0 hB0 hbr
    rename World => wo
    obtain ⟨i, G, v, L0, rfl, hi1, hi2, hP, hB⟩ := hrel
    by_cases hc : i < n ∧ i < 60
    · obtain ⟨c1, c2⟩ := hc
      have d1 : decide ((i : Int) < (n : Int)) = true := decide_eq_true (by omega)
      have d1' : decide (i < n) = true := decide_eq_true c1
      have d2 : decide ((i : Int) < 60) = true := decide_eq_true (by omega)
      have d3 : (i : Int) < (n : Int) := by omega
      obtain ⟨x, hx⟩ : ∃ x, L[i]? = some x := ⟨_, List.getElem?_eq_getElem (by rw [hA.out.1]; exact c1)⟩
      have hxo := hO.out x (List.mem_of_getElem? hx)
      have hKX := hA.out.belowB hAt.out hB.out
      obtain ⟨ob, off, rfl, e0, e1, e2, e3, e4⟩ := hKX.2 i x hx
      obtain ⟨kk, s0, ii, p0, m⟩ := x
      simp only at e0 e1 e2 e3 e4
      replace hx := Lib.hid hx
      replace hKX := Lib.hid hKX
      have HD := LDo_any B d b d G v L0 ⟨kk, s0, ii, p0, m⟩ wo hP (Lib.hid hxo)
      obtain ⟨LN, eLN⟩ : ∃ l, doO L0 ⟨kk, s0, ii, p0, m⟩ = l := ⟨_, rfl⟩
      rw [eLN] at HD
      simp only [Ask.val] at HD
      replace HD := Lib.hid HD
      replace eLN := Lib.hid eLN
      go_wp2_with fail
      refine HD.out.mono ?_
      rintro e w5 ⟨G5, v5, rfl, P5, o5, -, -⟩
      have HL := Lib.hid (LAlike_any B d b d G5 v5 LN w5 (Lib.hid P5))
      have hB5 := Lib.hid (hB.out.trans (hP.out.did o5))
      replace P5 := Lib.hid P5
      clear HD o5
      go_wp2_with fail
      refine HL.out.mono ?_
      rintro e w6 ⟨rfl, b6⟩
      have P6 := Lib.hid (P5.out.below b6)
      have hB6 := Lib.hid (hB5.out.trans (b6.mono P5.out.k.size))
      clear HL b6
      go_wp2_with fail
      go_roundw
      case rel => exact ⟨i + 1, G5, v5, LN, by go_num, by omega, by omega, P6, hB6⟩
      case measure => simp [intOf]; omega
    · have hKn := Lib.hid (BKnown_any wo)
      have hKs := hP.out.k.size
      by_cases hin : i < n
      · have d1 : decide ((i : Int) < (n : Int)) = true := decide_eq_true (by omega)
        have d1' : decide (i < n) = true := decide_eq_true hin
        have d2 : decide ((i : Int) < 60) = false := decide_eq_false (by omega)
        go_wp2_with fail
        refine hKn.out.mono ?_
        rintro e w9 ⟨rfl, b9⟩
        replace b9 := Lib.hid b9
        go_wp2_with fail
        go_ret
        exact ⟨rfl, hB.out.trans (b9.out.mono hKs)⟩
      · have d1 : decide ((i : Int) < (n : Int)) = false := decide_eq_false (by omega)
        have d1' : decide (i < n) = false := decide_eq_false hin
        go_wp2_with fail
        refine hKn.out.mono ?_
        rintro e w9 ⟨rfl, b9⟩
        replace b9 := Lib.hid b9
        go_wp2_with fail
        go_ret
        exact ⟨rfl, hB.out.trans (b9.out.mono hKs)⟩
end Go.Proofs.Ytlknlicokacoiaa

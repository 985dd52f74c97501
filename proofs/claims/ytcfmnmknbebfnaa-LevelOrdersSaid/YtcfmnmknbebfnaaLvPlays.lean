/-
  The walk of LevelPlays.
-/
import Derived.Test.YtcfmnmknbebfnaaOpenAsk
import Derived.Test.YtcfmnmknbebfnaaLvAlike
import Derived.Test.YtcfmnmknbebfnaaLvKnown
namespace Go.Proofs.Ytcfmnmknbebfnaa
open Go.RowKit
set_option linter.unusedVariables false
set_option linter.unusedSimpArgs false

theorem New_at (k : Nat) (w : World) (h : k ≤ 30) : Calls Try.prog 8 #[.int .i64 (1 + (k : Int))] w fun e w' => ∃ c F, e = .returned (.tuple #[.pointer (some ⟨c, 0, none⟩), .int .i64 0]) ∧ AR w.heap.size c F (newS (1 + k)) w' ∧ Below w.heap.size w w' := by
  have := New_yes (1 + k) w (by omega) (by omega)
  rwa [Int.natCast_add] at this
theorem RNew_at (k : Nat) (w : World) (h : k ≤ 30) : Calls Try.prog 9 #[.int .i64 (1 + (k : Int))] w fun e w' => ∃ c F, e = .returned (.pointer (some ⟨c, 0, none⟩)) ∧ RA w.heap.size c F (newS (1 + k)) w' ∧ Below w.heap.size w w' := by
  have := RNew_any (1 + k) w (by omega)
  rwa [Int.natCast_add] at this
theorem RA.base {B B' c : Nat} {F : Nat → Prop} {st : St} {w : World} (h : RA B c F st w) (hb : B' ≤ B) : RA B' c F st w := by
  obtain ⟨u, q, V, rfl, hR, hO, hB⟩ := h
  exact ⟨u, q, V, rfl, hR, hO, fun k hk => Nat.le_trans hb (hB k hk)⟩
/-- Two new arenas, one behind the other. -/
theorem both_new {B c d : Nat} {F G : Nat → Prop} {st : St} {w1 w2 : World} (h1 : AR B c F st w1) (h2 : RA w1.heap.size d G st w2) (hb : Below w1.heap.size w1 w2) (hB : B ≤ w1.heap.size) : Both B c d F G st w2 :=
  ⟨h1.below hb, h2.base hB, fun k hk e => by have := (h1.lt hk).2; have := (h2.lt e).1; omega⟩
set_option maxRecDepth 100000 in
set_option maxHeartbeats 4000000 in
theorem Plays_walk (room : Int) (A : Option Addr) (n cap : Nat) (L : List Ask) (w : World) (hr : I64 room) (hA : Hid (HK w A n L)) (hO : Hid (OkK L)) (p1 : n ≤ cap) (p2 : cap ≤ 9223372036854775807) :
    Calls Try.prog 4 #[.int .i64 room, .slice A n cap] w fun e w' => e = .returned (.bool true) ∧ Below w.heap.size w w' := by
  have HW := Within_any room 30 w (by omega) hr.1 hr.2
  have hk := withinN_le room 30
  obtain ⟨k, ek⟩ : ∃ k, withinN room 30 = k := ⟨_, rfl⟩
  rw [ek] at HW hk
  replace HW := Lib.hid HW
  have hq0 : Hid ((newS (1 + k)).Q.length ≤ 0) := Lib.hid (Nat.le_refl _)
  have hrk : Hid (I64 (1 + (k : Int))) := Lib.hid ⟨by omega, by omega⟩
  obtain ⟨B, eB⟩ : ∃ B, w.heap.size = B := ⟨_, rfl⟩
  clear ek hr
  go_enter Try.func4, Try.ntmps4
  go_wp2_with fail
  refine HW.out.mono ?_
  rintro e w ⟨rfl, rfl⟩
  replace eB := Lib.hid eB
  go_wp2_with fail
  refine (New_at k w hk).mono ?_
  rintro e w1 ⟨c, F, rfl, a1, b1⟩
  rw [eB.out] at a1 b1
  replace a1 := Lib.hid a1
  have s1 : Hid (B ≤ w1.heap.size) := Lib.hid (by rw [← eB.out]; exact b1.size)
  replace b1 := Lib.hid b1
  go_wp2_with fail
  refine (RNew_at k w1 hk).mono ?_
  rintro e w2 ⟨d, G, rfl, a2, b2⟩
  have h2 := Lib.hid (both_new a1.out a2 b2 s1.out)
  have B2 := Lib.hid (b1.out.trans (b2.mono s1.out))
  clear a2 b2 a1 b1 s1
  obtain ⟨st, est⟩ : ∃ st, newS (1 + k) = st := ⟨_, rfl⟩
  rw [est] at h2 hq0
  clear est
  go_wp2_with fail
  go_loopw [8] (fun iv wr => ∃ (i : Nat) (st : St) (F G : Nat → Prop), iv = .int .i64 i ∧ i ≤ n ∧ i ≤ 60 ∧ Hid (Both B c d F G st wr) ∧ Hid (st.Q.length ≤ i) ∧ Hid (Below B w wr)) (fun iv _ => (60 - intOf iv).toNat)
  case atStart => exact ⟨0, st, F, G, rfl, by omega, by omega, h2, hq0, B2⟩
  case round =>
    clear h2 hq0 B2
    obtain ⟨i, st, F, G, rfl, hi1, hi2, hB, hq, hW⟩ := hrel
    by_cases hc : i < n ∧ i < 60
    · obtain ⟨c1, c2⟩ := hc
      have d1 : decide ((i : Int) < (n : Int)) = true := decide_eq_true (by omega)
      have d1' : decide (i < n) = true := decide_eq_true c1
      have d2 : decide ((i : Int) < 60) = true := decide_eq_true (by omega)
      obtain ⟨x, hx⟩ : ∃ x, L[i]? = some x := ⟨_, List.getElem?_eq_getElem (by rw [hA.out.1]; exact c1)⟩
      have hxo := hO.out x (List.mem_of_getElem? hx)
      have hsz : Hid (w.heap.size ≤ wr.heap.size) := Lib.hid hW.out.size
      have hAr := hA.out.below (w' := wr) (by rw [eB.out]; exact hW.out)
      obtain ⟨b, off, rfl, x0, x1, x2, x3, x4, x5⟩ := hAr.2 i x hx
      have hst := askO_q st x
      have hq2 : st.Q.length ≤ 100000 := by have := hq.out; omega
      have HD := Do_any B c d F G st x wr hB hq2 (Lib.hid hxo)
      have hq3 : Hid ((askO st x).Q.length ≤ i + 1) := Lib.hid (by have := hq.out; omega)
      obtain ⟨st2, es2⟩ : ∃ s, askO st x = s := ⟨_, rfl⟩
      rw [es2] at HD hq3
      obtain ⟨k', q', s', i', n', t'⟩ := x
      rw [show Ask.val ⟨k', q', s', i', n', t'⟩ = .agg #[.int .i64 k', .int .i64 q', .int .i64 s', .int .i64 i', .int .i64 n', .bool t'] from rfl] at HD
      replace HD := Lib.hid HD
      simp only at x0 x1 x2 x3 x4 x5
      clear hx hxo hAr hst es2
      go_wp2_with fail
      refine HD.out.mono ?_
      rintro e w3 ⟨F3, G3, rfl, h3, b3, -⟩
      replace h3 := Lib.hid h3
      have B3 := Lib.hid (hW.out.trans b3)
      clear b3 HD x0 x1 x2 x3 x4 x5
      go_wp2_with fail
      refine (Alike_any B c d F3 G3 st2 _ w3 h3 (by have := hq3.out; omega) hrk.out).mono ?_
      rintro e w4 ⟨rfl, b4⟩
      have h4 := Lib.hid (h3.out.below b4)
      have B4 := Lib.hid (B3.out.trans (b4.mono h3.out.size))
      clear b4
      go_wp2_with fail
      go_roundw
      case rel => exact ⟨i + 1, st2, F3, G3, by go_num, by omega, by omega, h4, hq3, B4⟩
      case measure => simp [intOf]; omega
    · have HK := Lib.hid (Known_any wr)
      have hsz : Hid (w.heap.size ≤ wr.heap.size) := Lib.hid hW.out.size
      have fin : Hid (∀ w', Below wr.heap.size wr w' → Below w.heap.size w w') := Lib.hid (fun w' b => by rw [eB.out]; exact hW.out.trans (b.mono (by rw [← eB.out]; exact hsz.out)))
      by_cases c1 : i < n
      · have e60 : i = 60 := by omega
        subst e60
        have d1 : decide ((60 : Int) < (n : Int)) = true := decide_eq_true (by omega)
        have d1' : decide (60 < n) = true := decide_eq_true c1
        clear hc hi2
        go_wp2_with fail
        refine HK.out.mono ?_
        rintro e w5 ⟨rfl, b5⟩
        go_wp2_with fail
        go_ret
        exact ⟨rfl, fin.out _ b5⟩
      · obtain rfl : i = n := by omega
        have d1 : decide ((i : Int) < (i : Int)) = false := decide_eq_false (by omega)
        have d1' : decide (i < i) = false := decide_eq_false (by omega)
        clear hc
        go_wp2_with fail
        refine HK.out.mono ?_
        rintro e w5 ⟨rfl, b5⟩
        go_wp2_with fail
        go_ret
        exact ⟨rfl, fin.out _ b5⟩
end Go.Proofs.Ytcfmnmknbebfnaa

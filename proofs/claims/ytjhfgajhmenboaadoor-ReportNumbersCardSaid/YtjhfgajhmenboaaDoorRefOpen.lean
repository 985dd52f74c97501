/-
  Contract: Open, of the document's own answer.
-/
import Derived.Test.YtjhfgajhmenboaaDoorRefFrame
import Derived.Deep.QuietTactic
import Derived.BigQuiet
namespace Go.Proofs.YtjhfgajhmenboaaDoor
open Go.RowKit
set_option linter.unusedVariables false
set_option linter.unusedSimpArgs false

/-- What Open answers at a place that may be: what the frame has, the place behind it, the number. -/
def openN (l : List UInt8) (k : Nat) : List UInt8 × Nat × Nat :=
  if l.length < k + 2 then ([], 0, 10) else
  if (l.getD (k + 1) 0).toNat ≠ 255 - (l.getD k 0).toNat then ([], 0, 14) else
  if l.length < k + ((l.getD k 0).toNat + 6) then ([], 0, 10) else
  if crcL ((l.drop (k + 2)).take (l.getD k 0).toNat) ≠ four (l.getD (k + 2 + (l.getD k 0).toNat) 0) (l.getD (k + 2 + (l.getD k 0).toNat + 1) 0) (l.getD (k + 2 + (l.getD k 0).toNat + 2) 0) (l.getD (k + 2 + (l.getD k 0).toNat + 3) 0) then ([], 0, 14) else
  ((l.drop (k + 2)).take (l.getD k 0).toNat, k + 6 + (l.getD k 0).toNat, 0)
/-- What Open answers. -/
def openR (l : List UInt8) (i : Int) : List UInt8 × Nat × Nat := if i < 0 ∨ (l.length : Int) < i then ([], 0, 1) else openN l i.toNat

theorem HB.byte {w : World} {ad : Addr} {n : Nat} {l : List UInt8} (h : HB w (some ad) n l) {k : Nat} (hk : k < n) : w.cell? (ad.add k) = some (bc (l.getD k 0)) := by
  obtain ⟨b, off, e, hc⟩ := h.2 (by omega)
  injection e with e
  subst e
  rw [WideShapes.add_plain]
  exact hc k hk

set_option maxRecDepth 100000 in
theorem RefOpen_arg (A : Option Addr) (n cap : Nat) (i : Int) (w : World) (hn : n ≤ 140737488355328) (hi : i < 0 ∨ (n : Int) < i) :
    Calls Tryd.prog 49 #[.slice A n cap, .int .i64 i] w fun e w' => e = .returned (.tuple #[.slice none 0 0, .int .i64 0, .int .i64 1]) ∧ w' = w := by
  by_cases h0 : i < 0
  · clear hi
    go_enter Tryd.func49, Tryd.ntmps49
    go_wp2_with fail
    go_ret3
    exact ⟨rfl, rfl⟩
  · have h1 : (n : Int) < i := by omega
    have h2 : 0 ≤ i := by omega
    clear hi h0
    go_enter Tryd.func49, Tryd.ntmps49
    go_wp2_with fail
    go_ret3
    exact ⟨rfl, rfl⟩

set_option maxRecDepth 100000 in
theorem RefOpen_short (A : Option Addr) (n cap k : Nat) (w : World) (hn : n ≤ 140737488355328) (hk : k ≤ n) (h2 : n < k + 2) :
    Calls Tryd.prog 49 #[.slice A n cap, .int .i64 k] w fun e w' => e = .returned (.tuple #[.slice none 0 0, .int .i64 0, .int .i64 10]) ∧ w' = w := by
  have d1 : decide ((n : Int) < k) = false := decide_eq_false (by omega)
  have d1' : decide (n < k) = false := decide_eq_false (by omega)
  have d2 : decide ((n : Int) - k < 2) = true := decide_eq_true (by omega)
  go_enter Tryd.func49, Tryd.ntmps49
  go_wp2_with fail
  go_ret3
  exact ⟨rfl, rfl⟩

set_option maxRecDepth 100000 in
set_option maxHeartbeats 1000000 in
theorem RefOpen_head (b off n cap k : Nat) (x y : UInt8) (w : World) (hn : n ≤ 140737488355328) (hcap : n ≤ cap) (hcap2 : cap ≤ 9223372036854775807) (h2 : k + 2 ≤ n) (hx : w.cell? ⟨b, off + k, none⟩ = some (.int .u8 x.toNat)) (hy : w.cell? ⟨b, off + (k + 1), none⟩ = some (.int .u8 y.toNat)) (hne : y.toNat ≠ 255 - x.toNat) :
    Calls Tryd.prog 49 #[.slice (some ⟨b, off, none⟩) n cap, .int .i64 k] w fun e w' => e = .returned (.tuple #[.slice none 0 0, .int .i64 0, .int .i64 14]) ∧ w' = w := by
  have hxl : x.toNat < 256 := by have := x.toNat_lt; omega
  have hyl : y.toNat < 256 := by have := y.toNat_lt; omega
  have d1 : decide ((n : Int) < k) = false := decide_eq_false (by omega)
  have d1' : decide (n < k) = false := decide_eq_false (by omega)
  have d2 : decide ((n : Int) - k < 2) = false := decide_eq_false (by omega)
  have d3 : ((y.toNat : Int) != 255 - (x.toNat : Int)) = true := by simp; omega
  clear hne
  go_enter Tryd.func49, Tryd.ntmps49
  go_wp2_with fail
  go_ret3
  exact ⟨rfl, rfl⟩

set_option maxRecDepth 100000 in
set_option maxHeartbeats 1000000 in
theorem RefOpen_tail (b off n cap k : Nat) (x y : UInt8) (w : World) (hn : n ≤ 140737488355328) (hcap : n ≤ cap) (hcap2 : cap ≤ 9223372036854775807) (h2 : k + 2 ≤ n) (hx : w.cell? ⟨b, off + k, none⟩ = some (.int .u8 x.toNat)) (hy : w.cell? ⟨b, off + (k + 1), none⟩ = some (.int .u8 y.toNat)) (heq : y.toNat = 255 - x.toNat) (hs : n < k + (x.toNat + 6)) :
    Calls Tryd.prog 49 #[.slice (some ⟨b, off, none⟩) n cap, .int .i64 k] w fun e w' => e = .returned (.tuple #[.slice none 0 0, .int .i64 0, .int .i64 10]) ∧ w' = w := by
  have hxl : x.toNat < 256 := by have := x.toNat_lt; omega
  have hyl : y.toNat < 256 := by have := y.toNat_lt; omega
  have d1 : decide ((n : Int) < k) = false := decide_eq_false (by omega)
  have d1' : decide (n < k) = false := decide_eq_false (by omega)
  have d2 : decide ((n : Int) - k < 2) = false := decide_eq_false (by omega)
  have d3 : ((y.toNat : Int) != 255 - (x.toNat : Int)) = false := by simp; omega
  have d4 : decide ((n : Int) - k < (x.toNat : Int) + 6) = true := decide_eq_true (by omega)
  clear heq
  go_enter Tryd.func49, Tryd.ntmps49
  go_wp2_with fail
  go_ret3
  exact ⟨rfl, rfl⟩

theorem or_add {a b i : Nat} (h : a < 2 ^ i) : a ||| b * 2 ^ i = a + b * 2 ^ i := by
  have := Nat.two_pow_add_eq_or_of_lt h b
  rw [Nat.or_comm, Nat.mul_comm b, ← this, Nat.add_comm]
theorem or_four (s0 s1 s2 s3 : UInt8) : bits .or .u32 (bits .or .u32 (bits .or .u32 (s0.toNat : Int) ((s1.toNat : Int) * 256)) ((s2.toNat : Int) * 65536)) ((s3.toNat : Int) * 16777216) = ((four s0 s1 s2 s3 : Nat) : Int) := by
  have h0 := s0.toNat_lt
  have h1 := s1.toNat_lt
  have h2 := s2.toNat_lt
  have h3 := s3.toNat_lt
  have a1 : s0.toNat ||| s1.toNat * 256 = s0.toNat + s1.toNat * 256 := or_add (i := 8) (by omega)
  have a2 : (s0.toNat + s1.toNat * 256) ||| s2.toNat * 65536 = s0.toNat + s1.toNat * 256 + s2.toNat * 65536 := or_add (i := 16) (by omega)
  have a3 : (s0.toNat + s1.toNat * 256 + s2.toNat * 65536) ||| s3.toNat * 16777216 = s0.toNat + s1.toNat * 256 + s2.toNat * 65536 + s3.toNat * 16777216 := or_add (i := 24) (by omega)
  rw [show (s1.toNat : Int) * 256 = ((s1.toNat * 256 : Nat) : Int) by omega, show (s2.toNat : Int) * 65536 = ((s2.toNat * 65536 : Nat) : Int) by omega, show (s3.toNat : Int) * 16777216 = ((s3.toNat * 16777216 : Nat) : Int) by omega]
  rw [u32_or_nat _ _ (by omega) (by omega), a1, u32_or_nat _ _ (by omega) (by omega), a2, u32_or_nat _ _ (by omega) (by omega), a3]
  unfold four; omega
set_option maxRecDepth 100000 in
set_option maxHeartbeats 2000000 in
theorem RefOpen_sum (b off n cap k : Nat) (l z : List UInt8) (x y s0 s1 s2 s3 : UInt8) (c : Nat) (w : World) (hn : n ≤ 140737488355328) (hcap : n ≤ cap) (hcap2 : cap ≤ 9223372036854775807) (h : Hid (HB w (some ⟨b, off, none⟩) n l))
    (hx : w.cell? ⟨b, off + k, none⟩ = some (.int .u8 x.toNat)) (hy : w.cell? ⟨b, off + (k + 1), none⟩ = some (.int .u8 y.toNat)) (heq : y.toNat = 255 - x.toNat) (hs : k + (x.toNat + 6) ≤ n)
    (ez : Hid ((l.drop (k + 2)).take x.toNat = z)) (ec : Hid (crcL z = c)) (hcf : c ≠ four s0 s1 s2 s3)
    (e0 : Hid (l.getD (k + 2 + x.toNat) 0 = s0)) (e1 : Hid (l.getD (k + 2 + x.toNat + 1) 0 = s1)) (e2 : Hid (l.getD (k + 2 + x.toNat + 2) 0 = s2)) (e3 : Hid (l.getD (k + 2 + x.toNat + 3) 0 = s3)) :
    Calls Tryd.prog 49 #[.slice (some ⟨b, off, none⟩) n cap, .int .i64 k] w fun e w' => e = .returned (.tuple #[.slice none 0 0, .int .i64 0, .int .i64 14]) ∧ Below w.heap.size w w' := by
  obtain ⟨i0, hi0, hz0, hz1, hz2⟩ := info_parts info_u8
  have hxl : x.toNat < 256 := by have := x.toNat_lt; omega
  have hyl : y.toNat < 256 := by have := y.toNat_lt; omega
  have d1 : decide ((n : Int) < k) = false := decide_eq_false (by omega)
  have d1' : decide (n < k) = false := decide_eq_false (by omega)
  have d2 : decide ((n : Int) - k < 2) = false := decide_eq_false (by omega)
  have d3 : ((y.toNat : Int) != 255 - (x.toNat : Int)) = false := by simp; omega
  have d4 : decide ((n : Int) - k < (x.toNat : Int) + 6) = false := decide_eq_false (by omega)
  have q1 : ¬ cap = k + 2 := by omega
  have q2 : k + 2 ≤ cap := by omega
  have q3 : k + 2 + x.toNat ≤ cap := by omega
  have q4 : k + 2 + x.toNat ≤ n := by omega
  have R0 := Lib.hid (rb_lit w w.heap.size [] (Nat.le_refl _) (by simp))
  have HW := Lib.hid ((h.out.win (i := k + 2) (m := x.toNat) (by omega)).alloc (.cells #[] 5))
  have hor := or_four s0 s1 s2 s3
  have hcb : ((c : Int) != ((four s0 s1 s2 s3 : Nat) : Int)) = true := by simp; omega
  rw [← hor] at hcb
  have hcb := Lib.hid hcb
  clear heq hcf hor
  go_enter Tryd.func49, Tryd.ntmps49
  go_wp2_with (at_builtin; refine Classical.byContradiction fun hnot => ?_)
  refine hnot ?_
  refine wpList_onto_b (by rfl) (.tmp 44) (.tmp 52) 26 (by rfl) w.heap.size i0 Tryd.underlying26 hi0 hz0 hz1 hz2 _ _ (by rfl) R0.out (some ⟨b, off + (k + 2), none⟩) x.toNat (cap - (k + 2)) _ (by simp [Act.eval, Act.put, q1]) HW.out (fun e => by cases e) ?c1 ?c2 ?_
  case c1 => simp; omega
  case c2 => simp
  clear hnot
  intro v1 w1 r1 g1 _
  rw [ez.out, List.nil_append] at r1
  have b1 := Lib.hid (RB.below ((Below.refl _ w).alloc (Nat.le_refl _) _) R0.out g1)
  have r1 := Lib.hid r1
  clear g1
  obtain ⟨A1, cap1, rfl, H1, _, _, _⟩ := r1.out.holds
  have zl : z.length = x.toNat := by rw [← ez.out, List.length_take, List.length_drop, h.out.1]; omega
  rw [zl] at H1
  have H1 := Lib.hid H1
  have HL := Lib.hid (h.out.below b1.out)
  obtain ⟨b', off', e', hc⟩ := HL.out.2 (by omega)
  injection e' with e'
  injection e' with f1 f2
  subst f1; subst f2
  have k0 := hc (k + 2 + x.toNat) (by omega)
  have k1 := hc (k + 2 + x.toNat + 1) (by omega)
  have k2 := hc (k + 2 + x.toNat + 2) (by omega)
  have k3 := hc (k + 2 + x.toNat + 3) (by omega)
  clear hc
  unfold bc at k0 k1 k2 k3
  rw [e0.out] at k0
  rw [e1.out] at k1
  rw [e2.out] at k2
  rw [e3.out] at k3
  have y0 : s0.toNat < 256 := by have := s0.toNat_lt; omega
  have y1 : s1.toNat < 256 := by have := s1.toNat_lt; omega
  have y2 : s2.toNat < 256 := by have := s2.toNat_lt; omega
  have y3 : s3.toNat < 256 := by have := s3.toNat_lt; omega
  go_wp2_with fail
  have m4 : 4 ≤ n - (k + 2 + x.toNat) := by omega
  have mc : n - (k + 2 + x.toNat) ≤ cap - (k + 2 + x.toNat) := by omega
  have mn : n - (k + 2 + x.toNat) ≤ 140737488355328 := by omega
  rw [show off + (k + 2 + x.toNat + 1) = off + (k + 2 + x.toNat) + 1 by omega] at k1
  rw [show off + (k + 2 + x.toNat + 2) = off + (k + 2 + x.toNat) + 2 by omega] at k2
  rw [show off + (k + 2 + x.toNat + 3) = off + (k + 2 + x.toNat) + 3 by omega] at k3
  clear q1 q2 q3 q4
  obtain ⟨m9, em9⟩ : ∃ m9, n - (k + 2 + x.toNat) = m9 := ⟨_, rfl⟩
  obtain ⟨c9, ec9⟩ : ∃ c9, cap - (k + 2 + x.toNat) = c9 := ⟨_, rfl⟩
  obtain ⟨o9, eo9⟩ : ∃ o9, off + (k + 2 + x.toNat) = o9 := ⟨_, rfl⟩
  rw [em9, ec9, eo9]
  rw [em9] at m4 mc mn
  rw [ec9] at mc
  rw [eo9] at k0 k1 k2 k3
  have j0 : w1.drew.cell? ⟨b, o9, none⟩ = some (.int .u8 s0.toNat) := k0
  have j1 : w1.drew.cell? ⟨b, o9 + 1, none⟩ = some (.int .u8 s1.toNat) := k1
  have j2 : w1.drew.cell? ⟨b, o9 + 2, none⟩ = some (.int .u8 s2.toNat) := k2
  have j3 : w1.drew.cell? ⟨b, o9 + 3, none⟩ = some (.int .u8 s3.toNat) := k3
  have i1 : (1 : Int) < (m9 : Int) := by omega
  have i2 : (2 : Int) < (m9 : Int) := by omega
  have i3 : (3 : Int) < (m9 : Int) := by omega
  have i0' : (0 : Int) < (m9 : Int) := by omega
  clear em9 ec9 eo9
  have hcrc : ∀ q : Nat, Calls Tryd.prog 50 #[.slice A1 x.toNat cap1] (w1.drewN q) fun e w' => e = .returned (.int .u32 c) ∧ w' = w1.drewN q := by
    intro q
    refine (RefCrc_any A1 x.toNat cap1 z (w1.drewN q) (by omega) (Lib.hid (HB.drewN H1.out q))).mono ?_
    rintro e w' ⟨rfl, rfl⟩
    exact ⟨by rw [ec.out], rfl⟩
  go_quiet ((go_at_call 50; exact Calls.quiet_of_same (hcrc _)))
  have hcb := hcb.out
  go_wp2_with fail
  go_ret3
  exact ⟨rfl, below_drewN b1.out _⟩

set_option maxRecDepth 100000 in
set_option maxHeartbeats 2000000 in
theorem RefOpen_yes (b off n cap k : Nat) (l z : List UInt8) (x y s0 s1 s2 s3 : UInt8) (c : Nat) (w : World) (hn : n ≤ 140737488355328) (hcap : n ≤ cap) (hcap2 : cap ≤ 9223372036854775807) (h : Hid (HB w (some ⟨b, off, none⟩) n l))
    (hx : w.cell? ⟨b, off + k, none⟩ = some (.int .u8 x.toNat)) (hy : w.cell? ⟨b, off + (k + 1), none⟩ = some (.int .u8 y.toNat)) (heq : y.toNat = 255 - x.toNat) (hs : k + (x.toNat + 6) ≤ n)
    (ez : Hid ((l.drop (k + 2)).take x.toNat = z)) (ec : Hid (crcL z = c)) (hcf : c = four s0 s1 s2 s3)
    (e0 : Hid (l.getD (k + 2 + x.toNat) 0 = s0)) (e1 : Hid (l.getD (k + 2 + x.toNat + 1) 0 = s1)) (e2 : Hid (l.getD (k + 2 + x.toNat + 2) 0 = s2)) (e3 : Hid (l.getD (k + 2 + x.toNat + 3) 0 = s3)) :
    Calls Tryd.prog 49 #[.slice (some ⟨b, off, none⟩) n cap, .int .i64 k] w fun e w' => ∃ v, e = .returned (.tuple #[v, .int .i64 ((k + 6 + x.toNat : Nat) : Int), .int .i64 0]) ∧ RB w' w.heap.size v z ∧ Below w.heap.size w w' := by
  obtain ⟨i0, hi0, hz0, hz1, hz2⟩ := info_parts info_u8
  have hxl : x.toNat < 256 := by have := x.toNat_lt; omega
  have hyl : y.toNat < 256 := by have := y.toNat_lt; omega
  have d1 : decide ((n : Int) < k) = false := decide_eq_false (by omega)
  have d1' : decide (n < k) = false := decide_eq_false (by omega)
  have d2 : decide ((n : Int) - k < 2) = false := decide_eq_false (by omega)
  have d3 : ((y.toNat : Int) != 255 - (x.toNat : Int)) = false := by simp; omega
  have d4 : decide ((n : Int) - k < (x.toNat : Int) + 6) = false := decide_eq_false (by omega)
  have q1 : ¬ cap = k + 2 := by omega
  have q2 : k + 2 ≤ cap := by omega
  have q3 : k + 2 + x.toNat ≤ cap := by omega
  have q4 : k + 2 + x.toNat ≤ n := by omega
  have R0 := Lib.hid (rb_lit w w.heap.size [] (Nat.le_refl _) (by simp))
  have HW := Lib.hid ((h.out.win (i := k + 2) (m := x.toNat) (by omega)).alloc (.cells #[] 5))
  have hor := or_four s0 s1 s2 s3
  have hcb : ((c : Int) != ((four s0 s1 s2 s3 : Nat) : Int)) = false := by simp; omega
  rw [← hor] at hcb
  have hcb := Lib.hid hcb
  clear heq hcf hor
  go_enter Tryd.func49, Tryd.ntmps49
  go_wp2_with (at_builtin; refine Classical.byContradiction fun hnot => ?_)
  refine hnot ?_
  refine wpList_onto_b (by rfl) (.tmp 44) (.tmp 52) 26 (by rfl) w.heap.size i0 Tryd.underlying26 hi0 hz0 hz1 hz2 _ _ (by rfl) R0.out (some ⟨b, off + (k + 2), none⟩) x.toNat (cap - (k + 2)) _ (by simp [Act.eval, Act.put, q1]) HW.out (fun e => by cases e) ?c1 ?c2 ?_
  case c1 => simp; omega
  case c2 => simp
  clear hnot
  intro v1 w1 r1 g1 _
  rw [ez.out, List.nil_append] at r1
  have b1 := Lib.hid (RB.below ((Below.refl _ w).alloc (Nat.le_refl _) _) R0.out g1)
  have r1 := Lib.hid r1
  clear g1
  obtain ⟨A1, cap1, rfl, H1, _, _, _⟩ := r1.out.holds
  have zl : z.length = x.toNat := by rw [← ez.out, List.length_take, List.length_drop, h.out.1]; omega
  rw [zl] at H1
  have H1 := Lib.hid H1
  have HL := Lib.hid (h.out.below b1.out)
  obtain ⟨b', off', e', hc⟩ := HL.out.2 (by omega)
  injection e' with e'
  injection e' with f1 f2
  subst f1; subst f2
  have k0 := hc (k + 2 + x.toNat) (by omega)
  have k1 := hc (k + 2 + x.toNat + 1) (by omega)
  have k2 := hc (k + 2 + x.toNat + 2) (by omega)
  have k3 := hc (k + 2 + x.toNat + 3) (by omega)
  clear hc
  unfold bc at k0 k1 k2 k3
  rw [e0.out] at k0
  rw [e1.out] at k1
  rw [e2.out] at k2
  rw [e3.out] at k3
  have y0 : s0.toNat < 256 := by have := s0.toNat_lt; omega
  have y1 : s1.toNat < 256 := by have := s1.toNat_lt; omega
  have y2 : s2.toNat < 256 := by have := s2.toNat_lt; omega
  have y3 : s3.toNat < 256 := by have := s3.toNat_lt; omega
  go_wp2_with fail
  have m4 : 4 ≤ n - (k + 2 + x.toNat) := by omega
  have mc : n - (k + 2 + x.toNat) ≤ cap - (k + 2 + x.toNat) := by omega
  have mn : n - (k + 2 + x.toNat) ≤ 140737488355328 := by omega
  rw [show off + (k + 2 + x.toNat + 1) = off + (k + 2 + x.toNat) + 1 by omega] at k1
  rw [show off + (k + 2 + x.toNat + 2) = off + (k + 2 + x.toNat) + 2 by omega] at k2
  rw [show off + (k + 2 + x.toNat + 3) = off + (k + 2 + x.toNat) + 3 by omega] at k3
  clear q1 q2 q3 q4
  obtain ⟨m9, em9⟩ : ∃ m9, n - (k + 2 + x.toNat) = m9 := ⟨_, rfl⟩
  obtain ⟨c9, ec9⟩ : ∃ c9, cap - (k + 2 + x.toNat) = c9 := ⟨_, rfl⟩
  obtain ⟨o9, eo9⟩ : ∃ o9, off + (k + 2 + x.toNat) = o9 := ⟨_, rfl⟩
  rw [em9, ec9, eo9]
  rw [em9] at m4 mc mn
  rw [ec9] at mc
  rw [eo9] at k0 k1 k2 k3
  have j0 : w1.drew.cell? ⟨b, o9, none⟩ = some (.int .u8 s0.toNat) := k0
  have j1 : w1.drew.cell? ⟨b, o9 + 1, none⟩ = some (.int .u8 s1.toNat) := k1
  have j2 : w1.drew.cell? ⟨b, o9 + 2, none⟩ = some (.int .u8 s2.toNat) := k2
  have j3 : w1.drew.cell? ⟨b, o9 + 3, none⟩ = some (.int .u8 s3.toNat) := k3
  have i1 : (1 : Int) < (m9 : Int) := by omega
  have i2 : (2 : Int) < (m9 : Int) := by omega
  have i3 : (3 : Int) < (m9 : Int) := by omega
  have i0' : (0 : Int) < (m9 : Int) := by omega
  clear em9 ec9 eo9
  have hcrc : ∀ q : Nat, Calls Tryd.prog 50 #[.slice A1 x.toNat cap1] (w1.drewN q) fun e w' => e = .returned (.int .u32 c) ∧ w' = w1.drewN q := by
    intro q
    refine (RefCrc_any A1 x.toNat cap1 z (w1.drewN q) (by omega) (Lib.hid (HB.drewN H1.out q))).mono ?_
    rintro e w' ⟨rfl, rfl⟩
    exact ⟨by rw [ec.out], rfl⟩
  go_quiet ((go_at_call 50; exact Calls.quiet_of_same (hcrc _)))
  have hcb := hcb.out
  go_wp2_with fail
  go_ret3
  refine ⟨.slice A1 x.toNat cap1, ?_, ?_, below_drewN b1.out _⟩
  · rw [show ((k + 6 + x.toNat : Nat) : Int) = (k : Int) + 6 + (x.toNat : Int) by omega]
    rfl
  · rw [← zl]; exact r1.out.drewN _

end Go.Proofs.YtjhfgajhmenboaaDoor

/-
  The law FifoGrows: its walk.
-/
import Derived.Test.YtbdabcdpgbpadaaFiTells
namespace Go.Proofs.Ytbdabcdpgbpadaa
open Go.RowKit
set_option linter.unusedVariables false
set_option linter.unusedSimpArgs false

theorem fill_more (l : List Int) (k m : Nat) (i : Nat) (hl : ∀ x ∈ l, 1 ≤ x ∧ x ≤ 1000000) (hi : i < l.length) : (fillL l (k : Int)).getD i 0 ≤ (fillL l ((k : Int) + (m : Int))).getD i 0 := by
  have h0 : ∀ x ∈ l, 0 ≤ x := fun x hx => by have := hl x hx; omega
  rw [fill_at l _ i h0 (by omega) hi, fill_at l _ i h0 (by omega) hi]
  omega
theorem fill_behind (l : List Int) (z : Int) (k : Nat) (i : Nat) (hl : ∀ x ∈ l, 1 ≤ x ∧ x ≤ 1000000) (hz : 0 ≤ z) (hi : i < l.length) : (fillL (l ++ [z]) (k : Int)).getD i 0 = (fillL l (k : Int)).getD i 0 := by
  have h0 : ∀ x ∈ l, 0 ≤ x := fun x hx => by have := hl x hx; omega
  have h1 : ∀ x ∈ l ++ [z], 0 ≤ x := fun x hx => by
    rcases List.mem_append.1 hx with hx | hx
    · exact h0 x hx
    · simp only [List.mem_singleton] at hx; omega
  rw [fill_at l _ i h0 (by omega) hi, fill_at _ _ i h1 (by omega) (by simp; omega), getD_left hi, List.take_append_of_le_length (by omega)]
theorem fill_end (l : List Int) (z : Int) (k : Nat) (hl : ∀ x ∈ l, 1 ≤ x ∧ x ≤ 1000000) (hz : 0 ≤ z) (hk : (k : Int) ≤ sumL l) : (fillL (l ++ [z]) (k : Int)).getD l.length 0 = 0 := by
  have h0 : ∀ x ∈ l, 0 ≤ x := fun x hx => by have := hl x hx; omega
  have h1 : ∀ x ∈ l ++ [z], 0 ≤ x := fun x hx => by
    rcases List.mem_append.1 hx with hx | hx
    · exact h0 x hx
    · simp only [List.mem_singleton] at hx; omega
  rw [fill_at _ _ _ h1 (by omega) (by simp), getD_last, List.take_left]
  omega
theorem right_behind {l : List Int} {z : Int} {k : Nat} (h : rightL l k = true) (hl : l.length ≤ 40) (h1 : 1 ≤ z) (h2 : z ≤ 1000000) : rightL (l ++ [z]) k = true := by
  obtain ⟨a, b, c, d⟩ := (right_iff _ _).1 h
  refine (right_iff _ _).2 ⟨by simp; omega, fun x hx => ?_, c, by rw [sumL_append]; simp only [sumL]; omega⟩
  rcases List.mem_append.1 hx with hx | hx
  · exact b x hx
  · simp only [List.mem_singleton] at hx; omega

set_option maxRecDepth 100000 in
set_option maxHeartbeats 1600000 in
theorem Grows_walk (A : Option Addr) (n cap : Nat) (xs : List Int) (small more last : Int) (w : World) (hn : n ≤ 9223372036854775807) (hcap : n ≤ cap) (s1 : -9223372036854775808 ≤ small) (s2 : small ≤ 9223372036854775807) (t1 : -9223372036854775808 ≤ more) (t2 : more ≤ 9223372036854775807) (u1 : -9223372036854775808 ≤ last) (u2 : last ≤ 9223372036854775807) (h : Hid (Holds w A n xs)) :
    Calls Try.prog 6 #[.slice A n cap, .int .i64 small, .int .i64 more, .int .i64 last] w fun e w' => e = .returned (.bool true) ∧ Below w.heap.size w w' := by
  obtain ⟨m, k, hm, hk, m1, k1, l40, hR⟩ := drawn_part xs small
  have H1 := Lib.hid (Sizes_any A n cap xs w hn h)
  have okS := size_ok xs
  obtain ⟨S, hS⟩ : ∃ S, sizeL xs = S := ⟨_, rfl⟩
  rw [hS] at hm l40 hR H1 okS
  replace hS := Lib.hid hS
  obtain ⟨ns, hns⟩ : ∃ ns, S.length = ns := ⟨_, rfl⟩
  have iS : ∀ x ∈ S, I64 x := fun x hx => by have := okS x hx; exact ⟨by omega, by omega⟩
  replace iS := Lib.hid iS
  have okS0 : Hid (∀ x ∈ S, 0 ≤ x ∧ x ≤ 1000000) := Lib.hid (fun x hx => by have := okS x hx; omega)
  obtain ⟨q, hq⟩ : ∃ q, m - k = q := ⟨_, rfl⟩
  have hq2 : (m : Int) - (k : Int) = (q : Int) := by omega
  have hq3 : q ≤ 40000000 := by omega
  have hj1 := withinN_le more q
  obtain ⟨j, hj⟩ : ∃ j, withinN more q = j := ⟨_, rfl⟩
  rw [hj] at hj1
  replace hj := Lib.hid hj
  have hz1 := withinN_le last 99
  obtain ⟨z, hz⟩ : ∃ z, withinN last 99 = z := ⟨_, rfl⟩
  rw [hz] at hz1
  replace hz := Lib.hid hz
  have hR2 : rightL S ((k : Int) + (j : Int)) = true := by
    obtain ⟨a, b, c, d⟩ := (right_iff _ _).1 hR
    exact (right_iff _ _).2 ⟨a, b, by omega, by omega⟩
  have hR3 := right_behind (z := 1 + (z : Int)) hR l40 (by omega) (by omega)
  have fm := Lib.hid (fun i hi => fill_more S k j i okS hi)
  have fb := Lib.hid (fun i hi => fill_behind S (1 + (z : Int)) k i okS (by omega) hi)
  have fe := fill_end S (1 + (z : Int)) k okS (by omega) (by omega)
  rw [hns] at fe
  replace fe := Lib.hid fe
  have ea := Lib.hid (share_yes hR)
  have eb := Lib.hid (share_yes hR2)
  have ec := Lib.hid (share_yes hR3)
  clear hR hR2 hR3 okS hq
  obtain ⟨i0, hi0, hy0, hy1, hy2⟩ := info_parts info_num
  go_enter Try.func6, Try.ntmps6
  go_wp2_with fail
  refine H1.out.mono ?_
  rintro e w1 ⟨v, rfl, r1, b1⟩
  obtain ⟨A1, c1, rfl, h1, z1, l1, m1c, -⟩ := r1.slice iS.out
  rw [hns] at h1 l1 ⊢
  rw [hns] at l40
  replace h1 := Lib.hid h1
  replace b1 := Lib.hid b1
  have HS := LSum_any A1 ns c1 S w1 (by omega) h1 okS0
  rw [hm] at HS
  replace HS := Lib.hid HS
  have HW := Within_any small m w1 (by omega) s1 s2
  rw [hk] at HW
  replace HW := Lib.hid HW
  have HW2 := Within_any more q w1 (by omega) t1 t2
  rw [hj.out] at HW2
  replace HW2 := Lib.hid HW2
  clear r1 H1
  go_wp2_with fail
  refine HS.out.mono ?_
  rintro e w2 ⟨rfl, rfl⟩
  go_wp2_with fail
  refine HW.out.mono ?_
  rintro e w2 ⟨rfl, rfl⟩
  go_wp2_with fail
  refine HS.out.mono ?_
  rintro e w2 ⟨rfl, rfl⟩
  go_wp2_with fail
  refine HW2.out.mono ?_
  rintro e w2 ⟨rfl, rfl⟩
  clear HS HW HW2
  have HS := FShare_any A1 ns c1 S (k : Int) w2 (by omega) (by omega) (by omega) h1
  rw [ea.out] at HS
  have iF := fill_len S k
  have iF2 := share_I64 S k
  rw [ea.out] at iF2
  rw [hns] at iF
  obtain ⟨F, hF⟩ : ∃ F, fillL S (k : Int) = F := ⟨_, rfl⟩
  rw [hF] at iF iF2 HS
  replace HS := Lib.hid HS
  go_wp2_with fail
  refine HS.out.mono ?_
  rintro e w3 ⟨v, rfl, r3, b3⟩
  obtain ⟨A3, c3, rfl, h3, -, l3, m3, -⟩ := r3.slice iF2
  rw [iF] at h3 l3 ⊢
  replace h3 := Lib.hid h3
  have h13 := Lib.hid (h1.out.below b3)
  have B3 := Lib.hid (below_up b1.out b3)
  clear HS r3 b3 h1
  have HS := FShare_any A1 ns c1 S ((k : Int) + (j : Int)) w3 (by omega) (by omega) (by omega) h13
  rw [eb.out] at HS
  have iG := fill_len S ((k : Int) + (j : Int))
  have iG2 := share_I64 S ((k : Int) + (j : Int))
  rw [eb.out] at iG2
  rw [hns] at iG
  obtain ⟨G, hG⟩ : ∃ G, fillL S ((k : Int) + (j : Int)) = G := ⟨_, rfl⟩
  rw [hG] at iG iG2 HS
  replace HS := Lib.hid HS
  go_wp2_with fail
  refine HS.out.mono ?_
  rintro e w4 ⟨v, rfl, r4, b4⟩
  obtain ⟨A4, c4, rfl, h4, -, l4, m4, -⟩ := r4.slice iG2
  rw [iG] at h4 l4 ⊢
  replace h4 := Lib.hid h4
  have h34 := Lib.hid (h3.out.below b4)
  have h14 := Lib.hid (h13.out.below b4)
  have B4 := Lib.hid (below_up B3.out b4)
  clear HS r4 b4 h3 h13
  have R5 := Lib.hid (row_lit w4 w4.heap.size [] (Nat.le_refl _) (by simp))
  have h15 := Lib.hid (h14.out.alloc (.cells #[] 2))
  have B5 := Lib.hid (B4.out.alloc B4.out.size (.cells #[] 2))
  have q5 : w4.heap.size ≤ (w4.alloc (.cells #[] 2)).heap.size := by simp
  go_wp2_with (at_builtin; refine wpList_onto (by rfl) (.tmp 36) (.tmp 37) 22 (by rfl) w4.heap.size i0 Try.underlying22 hi0 hy0 hy1 hy2 _ _ (by rfl) R5.out A1 ns c1 S (by rfl) h15.out z1 (by simp; omega) q5 ?_)
  intro v6 w6 r6 g6 o6
  try rw [List.nil_append] at r6
  have b6 := Lib.hid (((Below.refl w4.heap.size w4).alloc (Nat.le_refl _) (.cells #[] 2)).grown g6 q5 (fun q hq => (Row.lt R5.out hq).1))
  replace r6 := Lib.hid r6
  clear g6 o6 h15 B5 R5
  have HW := Within_any last 99 w6 (by omega) u1 u2
  rw [hz.out] at HW
  replace HW := Lib.hid HW
  have R7 := Lib.hid (r6.out.alloc (.cells #[.int .i64 (1 + (z : Int))] 2))
  have o7 := Lib.hid (one_lit w6 (1 + (z : Int)) 2 (by omega) (by omega))
  have q7 : w4.heap.size ≤ (w6.alloc (.cells #[.int .i64 (1 + (z : Int))] 2)).heap.size := by have := b6.out.size; simp; omega
  have b7 := Lib.hid (b6.out.alloc b6.out.size (.cells #[.int .i64 (1 + (z : Int))] 2))
  go_wp2_with fail
  refine HW.out.mono ?_
  rintro e w7 ⟨rfl, rfl⟩
  go_wp2_with (at_builtin; refine wpList_onto (by rfl) (.tmp 38) (.tmp 42) 22 (by rfl) w4.heap.size i0 Try.underlying22 hi0 hy0 hy1 hy2 _ _ (by rfl) R7.out _ 1 1 [1 + (z : Int)] (by rfl) o7.out (fun e => by cases e) (by omega) q7 ?_)
  intro v8 w8 r8 g8 o8
  have b8 := Lib.hid (b7.out.grown g8 q7 (fun q hq => (Row.lt r6.out hq).1))
  have iT : ∀ x ∈ S ++ [1 + (z : Int)], I64 x := fun x hx => by
    rcases List.mem_append.1 hx with hx | hx
    · exact iS.out x hx
    · simp only [List.mem_singleton] at hx; exact ⟨by omega, by omega⟩
  obtain ⟨A8, c8, rfl, h8, -, l8, m8, -⟩ := r8.slice iT
  have hl8 : (S ++ [1 + (z : Int)]).length = ns + 1 := by simp [hns]
  rw [hl8] at h8 l8 ⊢
  replace h8 := Lib.hid h8
  have B8 := Lib.hid (below_up B4.out b8.out)
  have h18 := Lib.hid (h14.out.below b8.out)
  have h38 := Lib.hid (h34.out.below b8.out)
  have h48 := Lib.hid (h4.out.below b8.out)
  clear g8 o8 r8 r6 b6 R7 o7 b7 iT HW h14 h34 h4 q5 q7
  have HS := FShare_any A8 (ns + 1) c8 (S ++ [1 + (z : Int)]) (k : Int) w8 (by omega) (by omega) (by omega) h8
  rw [ec.out] at HS
  have iE := fill_len (S ++ [1 + (z : Int)]) (k : Int)
  have iE2 := share_I64 (S ++ [1 + (z : Int)]) (k : Int)
  rw [ec.out] at iE2
  rw [hl8] at iE
  obtain ⟨E, hE⟩ : ∃ E, fillL (S ++ [1 + (z : Int)]) (k : Int) = E := ⟨_, rfl⟩
  rw [hE] at iE iE2 HS
  replace HS := Lib.hid HS
  go_wp2_with fail
  refine HS.out.mono ?_
  rintro e w9 ⟨v, rfl, r9, b9⟩
  obtain ⟨A9, c9, rfl, h9, -, l9, m9, -⟩ := r9.slice iE2
  rw [iE] at h9 l9 ⊢
  have h19 := Lib.hid (h18.out.below b9)
  have h39 := Lib.hid (h38.out.below b9)
  have h49 := Lib.hid (h48.out.below b9)
  have B9 := Lib.hid (below_up B8.out b9)
  replace h9 := Lib.hid h9
  clear HS r9 b9 h18 h38 h48 h8
  obtain ⟨b, off, rfl, hc9⟩ := h9.out.2.2 (by omega)
  have ce := hc9 ns (by omega)
  rw [hE] at fe fb
  rw [fe.out] at ce
  clear hc9
  have dn : ((ns : Int) != (ns : Int)) = false := by simp
  have dn1 : (((ns + 1 : Nat) : Int) != (ns : Int) + 1) = false := by simp
  have d00 : ((0 : Int) != 0) = false := by simp
  have dlt : (ns : Int) < ((ns + 1 : Nat) : Int) := by omega
  go_wp2_with fail
  rw [hF, hG] at fm
  rw [hF] at fb
  clear ce dn dn1 d00 dlt
  go_loopw [15] (fun i wr => ∃ t : Nat, i = .int .i64 t ∧ t ≤ ns ∧ ∃ d, wr = w9.drewN d) (fun i _ => (ns - intOf i).toNat)
  case atStart => exact ⟨0, rfl, by omega, 0, rfl⟩
  case round =>
    obtain ⟨t, rfl, ht, d, rfl⟩ := hrel
    by_cases hlt : t < ns
    · have d1 : decide ((t : Int) < (ns : Int)) = true := decide_eq_true (by omega)
      have d1' : decide (t < ns) = true := decide_eq_true hlt
      have d3 : (t : Int) < (ns : Int) := by omega
      have d4 : (t : Int) < ((ns + 1 : Nat) : Int) := by omega
      obtain ⟨b3, o3, rfl, k3⟩ := h39.out.2.2 (by omega)
      obtain ⟨b4, o4, rfl, k4⟩ := h49.out.2.2 (by omega)
      obtain ⟨b5, o5, e5, k5⟩ := h9.out.2.2 (by omega)
      injection e5 with e5
      injection e5 with e5 e6
      subst e5; subst e6
      have x3 := k3 t hlt
      have x4 := k4 t hlt
      have x5 := k5 t (by omega)
      have f1 := fm.out t (by omega)
      have f2 := fb.out t (by omega)
      rw [f2] at x5
      clear k3 k4 k5 f2
      generalize F.getD t 0 = x at *
      generalize G.getD t 0 = y at *
      have d5 : decide (y < x) = false := decide_eq_false (by omega)
      have d6 : (x != x) = false := by simp
      go_wp2_with fail
      go_quiet (fail)
      go_wp2_with fail
      go_roundw
      case rel => exact ⟨t + 1, by go_num, by omega, _, rfl⟩
      case measure => simp [intOf]; omega
    · obtain rfl : t = ns := by omega
      have d1 : decide ((t : Int) < (t : Int)) = false := by simp
      have d1' : decide (t < t) = false := by simp
      have B10 := Lib.hid (below_drewN B9.out d)
      go_wp2_with fail
      refine (Known_any _).mono ?_
      rintro e w14 ⟨rfl, b14⟩
      have B14 := Lib.hid (below_up B10.out b14)
      clear b14
      go_wp2_with fail
      go_ret
      exact ⟨rfl, B14.out⟩
end Go.Proofs.Ytbdabcdpgbpadaa

/-
  The law FifoTells: its walk.
-/
import Derived.Test.YtbdabcdpgbpadaaFiKnown
namespace Go.Proofs.Ytbdabcdpgbpadaa
open Go.RowKit
set_option linter.unusedVariables false
set_option linter.unusedSimpArgs false

/-- What the law draws: right numbers, and a part of their sum. -/
theorem drawn_part (xs : List Int) (small : Int) : ∃ m k : Nat, sumL (sizeL xs) = (m : Int) ∧ withinN small m = k ∧ m ≤ 40000000 ∧ k ≤ m ∧ (sizeL xs).length ≤ 40 ∧ rightL (sizeL xs) k = true := by
  have ok := size_ok xs
  have hl := size_len xs
  obtain ⟨b1, b2⟩ := sumL_bound (sizeL xs) 1000000 (fun x hx => by have := ok x hx; omega)
  have hle := withinN_le small (sumL (sizeL xs)).toNat
  refine ⟨(sumL (sizeL xs)).toNat, withinN small (sumL (sizeL xs)).toNat, by omega, rfl, by omega, hle, by omega, (right_iff _ _).2 ⟨by omega, ok, by omega, by omega⟩⟩

set_option maxRecDepth 100000 in
set_option maxHeartbeats 1600000 in
theorem Tells_walk (A : Option Addr) (n cap : Nat) (xs : List Int) (q small : Int) (w : World) (hn : n ≤ 9223372036854775807) (hcap : n ≤ cap) (q1 : -9223372036854775808 ≤ q) (q2 : q ≤ 9223372036854775807) (s1 : -9223372036854775808 ≤ small) (s2 : small ≤ 9223372036854775807) (h : Hid (Holds w A n xs)) :
    Calls Try.prog 4 #[.slice A n cap, .int .i64 q, .int .i64 small] w fun e w' => e = .returned (.bool true) ∧ Below w.heap.size w w' := by
  obtain ⟨m, k, hm, hk, m1, k1, l40, hR⟩ := drawn_part xs small
  have H1 := Lib.hid (Sizes_any A n cap xs w hn h)
  have okS := size_ok xs
  obtain ⟨S, hS⟩ : ∃ S, sizeL xs = S := ⟨_, rfl⟩
  rw [hS] at hm l40 hR H1 okS
  replace hS := Lib.hid hS
  obtain ⟨ns, hns⟩ : ∃ ns, S.length = ns := ⟨_, rfl⟩
  have iS : ∀ x ∈ S, I64 x := fun x hx => by have := okS x hx; exact ⟨by omega, by omega⟩
  replace iS := Lib.hid iS
  have okS0 : Hid (∀ x ∈ S, 0 ≤ x ∧ x ≤ 1000000) := Lib.hid (fun x hx => by have := okS x hx; omega)
  have dt : ∀ b : Bool, (b == b) = true := fun b => by cases b <;> rfl
  go_enter Try.func4, Try.ntmps4
  go_wp2_with fail
  refine H1.out.mono ?_
  rintro e w1 ⟨v, rfl, r1, b1⟩
  obtain ⟨A1, c1, rfl, h1, z1, l1, m1c, -⟩ := r1.slice iS.out
  rw [hns] at h1 l1 ⊢
  rw [hns] at l40
  replace h1 := Lib.hid h1
  replace b1 := Lib.hid b1
  have HS := LSum_any A1 ns c1 S w1 (by omega) h1 okS0
  rw [hm] at HS
  replace HS := Lib.hid HS
  have HW := Within_any small m w1 (by omega) s1 s2
  rw [hk] at HW
  replace HW := Lib.hid HW
  clear r1 H1
  go_wp2_with fail
  refine HS.out.mono ?_
  rintro e w2 ⟨rfl, rfl⟩
  go_wp2_with fail
  refine HW.out.mono ?_
  rintro e w2 ⟨rfl, rfl⟩
  clear HS HW
  have HS := Lib.hid (FShare_any A1 ns c1 S (k : Int) w2 (by omega) (by omega) (by omega) h1)
  go_wp2_with fail
  refine HS.out.mono ?_
  rintro e w3 ⟨v, rfl, r3, b3⟩
  obtain ⟨G, hG⟩ : ∃ G, shareL S k = G := ⟨_, rfl⟩
  have iG := share_I64 S k
  rw [hG] at r3 iG
  obtain ⟨A3, c3, rfl, h3, -, l3, m3, -⟩ := r3.slice iG
  obtain ⟨ng, hng⟩ : ∃ ng, G.length = ng := ⟨_, rfl⟩
  have lg := share_len S k
  rw [hG, hng] at lg
  rw [hng] at h3 l3 ⊢
  replace h3 := Lib.hid h3
  have h13 := Lib.hid (h1.out.below b3)
  have B3 := Lib.hid (below_up b1.out b3)
  clear HS r3 b3
  have HS := Lib.hid (RShare_any A1 ns c1 S (k : Int) w3 (by omega) (by omega) (by omega) h13)
  go_wp2_with fail
  refine HS.out.mono ?_
  rintro e w4 ⟨v, rfl, r4, b4⟩
  rw [hG] at r4
  obtain ⟨A4, c4, rfl, h4, -, l4, m4, -⟩ := r4.slice iG
  rw [hng] at h4 l4 ⊢
  have h34 := Lib.hid (h3.out.below b4)
  have h14 := Lib.hid (h13.out.below b4)
  have B4 := Lib.hid (below_up B3.out b4)
  replace h4 := Lib.hid h4
  clear HS r4 b4 h3 h13
  go_wp2_with fail
  refine (Same_yes A3 A4 ng c3 c4 G w4 (by omega) h34 h4).mono ?_
  rintro e w5 ⟨rfl, d5, rfl⟩
  have h15 := Lib.hid (h14.out.drewN d5)
  have B5 := Lib.hid (below_drewN B4.out d5)
  obtain ⟨w5, hw5⟩ : ∃ w5, w4.drewN d5 = w5 := ⟨_, rfl⟩
  rw [hw5] at h15 B5 ⊢
  clear hw5 h34 h14 h4
  have HS := FRight_any A1 ns c1 S (k : Int) w5 (by omega) (by omega) (by omega) h15
  rw [hR] at HS
  replace HS := Lib.hid HS
  go_wp2_with fail
  refine HS.out.mono ?_
  rintro e w6 ⟨rfl, rfl⟩
  clear HS
  have h5 := Lib.hid (h.out.below B5.out)
  have HS := Lib.hid (FRight_any A n cap xs q w6 hn q1 q2 h5)
  go_wp2_with fail
  refine HS.out.mono ?_
  rintro e w7 ⟨rfl, rfl⟩
  clear HS
  have HS := Lib.hid (RRight_any A n cap xs q w7 hn q1 q2 h5)
  go_wp2_with fail
  refine HS.out.mono ?_
  rintro e w8 ⟨rfl, rfl⟩
  clear HS
  obtain ⟨b, hb⟩ : ∃ b, rightL xs q = b := ⟨_, rfl⟩
  rw [hb]
  have db := dt b
  have HS := Lib.hid (FShare_any A n cap xs q w8 hn q1 q2 h5)
  go_wp2_with fail
  refine HS.out.mono ?_
  rintro e w9 ⟨v, rfl, r9, b9⟩
  clear hG iG hng
  obtain ⟨G, hG⟩ : ∃ G, shareL xs q = G := ⟨_, rfl⟩
  have iG := share_I64 xs q
  rw [hG] at r9 iG
  obtain ⟨A9, c9, rfl, h9, -, l9, m9, -⟩ := r9.slice iG
  obtain ⟨ng9, hng⟩ : ∃ ng, G.length = ng := ⟨_, rfl⟩
  have lg9 := share_len xs q
  rw [hG, hng] at lg9
  rw [hng] at h9 l9 ⊢
  replace h9 := Lib.hid h9
  have h19 := Lib.hid (h15.out.below b9)
  have hx9 := Lib.hid (h5.out.below b9)
  have B9 := Lib.hid (below_up B5.out b9)
  clear HS r9 b9
  have HS := Lib.hid (RShare_any A n cap xs q w9 hn q1 q2 hx9)
  go_wp2_with fail
  refine HS.out.mono ?_
  rintro e w10 ⟨v, rfl, r10, b10⟩
  rw [hG] at r10
  obtain ⟨A10, c10, rfl, h10, -, l10, m10, -⟩ := r10.slice iG
  rw [hng] at h10 l10 ⊢
  have h910 := Lib.hid (h9.out.below b10)
  have h110 := Lib.hid (h19.out.below b10)
  have hx10 := Lib.hid (hx9.out.below b10)
  have B10 := Lib.hid (below_up B9.out b10)
  replace h10 := Lib.hid h10
  clear HS r10 b10 h9 h19 hx9
  go_wp2_with fail
  refine (Same_yes A9 A10 ng9 c9 c10 G w10 (by omega) h910 h10).mono ?_
  rintro e w11 ⟨rfl, d11, rfl⟩
  have h111 := Lib.hid (h110.out.drewN d11)
  have hx11 := Lib.hid (hx10.out.drewN d11)
  have B11 := Lib.hid (below_drewN B10.out d11)
  obtain ⟨w11, hw11⟩ : ∃ w11, w10.drewN d11 = w11 := ⟨_, rfl⟩
  rw [hw11] at h111 hx11 B11 ⊢
  clear hw11 h910 h110 h10 hx10
  have H1 := Sizes_any A n cap xs w11 hn hx11
  rw [hS.out] at H1
  replace H1 := Lib.hid H1
  go_wp2_with fail
  refine H1.out.mono ?_
  rintro e w12 ⟨v, rfl, r12, b12⟩
  obtain ⟨A12, c12, rfl, h12, -, l12, m12, -⟩ := r12.slice iS.out
  rw [hns] at h12 l12 ⊢
  replace h12 := Lib.hid h12
  have h112 := Lib.hid (h111.out.below b12)
  have B12 := Lib.hid (below_up B11.out b12)
  clear r12 b12 H1
  go_wp2_with fail
  refine (Same_yes A1 A12 ns c1 c12 S w12 (by omega) h112 h12).mono ?_
  rintro e w13 ⟨rfl, d13, rfl⟩
  have B13 := Lib.hid (below_drewN B12.out d13)
  go_wp2_with fail
  refine (Known_any _).mono ?_
  rintro e w14 ⟨rfl, b14⟩
  have B14 := Lib.hid (below_up B13.out b14)
  clear b14
  go_wp2_with fail
  go_ret
  exact ⟨rfl, B14.out⟩
end Go.Proofs.Ytbdabcdpgbpadaa

/-
  The law FifoRules: its walk.
-/
import Derived.Test.YtbdabcdpgbpadaaFiRulesP
import Derived.Test.YtbdabcdpgbpadaaNumInt
import Derived.Deep.RegionHeld3
import Derived.StillTailTactics
namespace Go.Proofs.Ytbdabcdpgbpadaa
open Go.RowKit
set_option linter.unusedVariables false
set_option linter.unusedSimpArgs false

set_option maxRecDepth 100000 in
set_option maxHeartbeats 3200000 in
theorem Rules_walk (A : Option Addr) (n cap : Nat) (xs : List Int) (small first : Int) (w : World) (hn : n ≤ 9223372036854775807) (hcap : n ≤ cap) (s1 : -9223372036854775808 ≤ small) (s2 : small ≤ 9223372036854775807) (t1 : -9223372036854775808 ≤ first) (t2 : first ≤ 9223372036854775807) (h : Hid (Holds w A n xs)) :
    Calls Try.prog 5 #[.slice A n cap, .int .i64 small, .int .i64 first] w fun e w' => e = .returned (.bool true) ∧ Below w.heap.size w w' := by
  obtain ⟨M, k, hM, hk, M1, k1, l40, hR⟩ := drawn_part xs small
  have H1 := Lib.hid (Sizes_any A n cap xs w hn h)
  have okS := size_ok xs
  obtain ⟨S, hS⟩ : ∃ S, sizeL xs = S := ⟨_, rfl⟩
  rw [hS] at hM l40 hR H1 okS
  replace hS := Lib.hid hS
  obtain ⟨ns, hns⟩ : ∃ ns, S.length = ns := ⟨_, rfl⟩
  have iS : ∀ x ∈ S, I64 x := fun x hx => by have := okS x hx; exact ⟨by omega, by omega⟩
  replace iS := Lib.hid iS
  have okS0 : Hid (∀ x ∈ S, 0 ≤ x ∧ x ≤ 1000000) := Lib.hid (fun x hx => by have := okS x hx; omega)
  have hm1 := withinN_le first k
  obtain ⟨m, hm⟩ : ∃ m, withinN first k = m := ⟨_, rfl⟩
  rw [hm] at hm1
  replace hm := Lib.hid hm
  have hR2 : rightL S (m : Int) = true := by
    obtain ⟨a, b, c, d⟩ := (right_iff _ _).1 hR
    exact (right_iff _ _).2 ⟨a, b, by omega, by omega⟩
  have ea := Lib.hid (share_yes hR)
  have eb := Lib.hid (share_yes hR2)
  have h0S : ∀ x ∈ S, 0 ≤ x := fun x hx => by have := okS x hx; omega
  have lF := fill_len S (k : Int)
  have lG := fill_len S (m : Int)
  have sF := fill_all S (k : Int) h0S (by omega) (by omega)
  have bF := fill_mem S (k : Int) okS0.out (by omega)
  have bG := fill_mem S (m : Int) okS0.out (by omega)
  have iF := share_I64 S (k : Int)
  have iG := share_I64 S (m : Int)
  rw [ea.out] at iF
  rw [eb.out] at iG
  have upF : ∀ i, i < ns → (fillL S (k : Int)).getD i 0 ≤ S.getD i 0 := fun i hi => by rw [fill_at S _ _ h0S (by omega) (by omega)]; omega
  have upG : ∀ i, i < ns → (fillL S (m : Int)).getD i 0 ≤ S.getD i 0 := fun i hi => by rw [fill_at S _ _ h0S (by omega) (by omega)]; omega
  have noF : ∀ i, i + 1 < ns → (fillL S (k : Int)).getD i 0 < S.getD i 0 → (fillL S (k : Int)).getD (i + 1) 0 = 0 := fun i hi he => fill_behind_none okS (by omega) he
  have bothG := fun L P Y => both_goes (S := S) (k := k) (m := m) (L := L) (P := P) (Y := Y) okS hm1
  have secG := fun L P j => second_go (S := S) (k := k) (m := m) (L := L) (P := P) (j := j) okS hm1
  have leftG := fun L P => left_right (S := S) (k := k) (m := m) (L := L) (P := P) okS (by omega) hm1 (by omega)
  rw [hns] at lF lG
  obtain ⟨F, hF⟩ : ∃ F, fillL S (k : Int) = F := ⟨_, rfl⟩
  obtain ⟨G, hG⟩ : ∃ G, fillL S (m : Int) = G := ⟨_, rfl⟩
  rw [hF] at lF sF bF iF
  rw [hG] at lG bG iG
  simp only [hF] at upF noF bothG secG
  simp only [hG] at upG bothG secG leftG
  replace upF := Lib.hid upF
  replace upG := Lib.hid upG
  replace noF := Lib.hid noF
  replace bothG := Lib.hid bothG
  replace secG := Lib.hid secG
  replace leftG := Lib.hid leftG
  replace bF := Lib.hid bF
  replace bG := Lib.hid bG
  replace okS := Lib.hid okS
  replace iF := Lib.hid iF
  replace iG := Lib.hid iG
  clear hR hR2 h0S
  obtain ⟨i0, hi0, hy0, hy1, hy2⟩ := info_parts info_num
  obtain ⟨i1, hi1, hx0, hx1, hx2⟩ := info_parts info_int
  go_enter Try.func5, Try.ntmps5
  go_wp2_with fail
  refine H1.out.mono ?_
  rintro e w1 ⟨v, rfl, r1, b1⟩
  obtain ⟨A1, c1, rfl, h1, z1, l1, m1c, at1⟩ := r1.slice iS.out
  rw [hns] at h1 l1 ⊢
  rw [hns] at l40
  replace h1 := Lib.hid h1
  replace b1 := Lib.hid b1
  replace at1 := Lib.hid at1
  have HS := LSum_any A1 ns c1 S w1 (by omega) h1 okS0
  rw [hM] at HS
  replace HS := Lib.hid HS
  have HW := Within_any small M w1 (by omega) s1 s2
  rw [hk] at HW
  replace HW := Lib.hid HW
  clear r1 H1
  go_wp2_with fail
  refine HS.out.mono ?_
  rintro e w2 ⟨rfl, rfl⟩
  go_wp2_with fail
  refine HW.out.mono ?_
  rintro e w2 ⟨rfl, rfl⟩
  clear HS HW
  have HS := FShare_any A1 ns c1 S (k : Int) w2 (by omega) (by omega) (by omega) h1
  rw [ea.out, hF] at HS
  replace hF := Lib.hid hF
  replace HS := Lib.hid HS
  go_wp2_with fail
  refine HS.out.mono ?_
  rintro e w3 ⟨v, rfl, r3, b3⟩
  obtain ⟨A3, c3, rfl, h3, -, l3, m3, at3⟩ := r3.slice iF.out
  rw [lF] at h3 l3 ⊢
  replace h3 := Lib.hid h3
  replace at3 := Lib.hid at3
  have h13 := Lib.hid (h1.out.below b3)
  have B3 := Lib.hid (below_up b1.out b3)
  have w23 := b3.size
  clear HS r3 b3 h1
  have HS := LSum_any A3 ns c3 F w3 (by omega) h3 bF
  rw [sF] at HS
  replace HS := Lib.hid HS
  have dn : ((ns : Int) != (ns : Int)) = false := by simp
  have dk : ((k : Int) != (k : Int)) = false := by simp
  go_wp2_with fail
  refine HS.out.mono ?_
  rintro e w4 ⟨rfl, rfl⟩
  clear HS
  go_wp2_with fail
  go_loopw [10] (fun i wr => ∃ t : Nat, i = .int .i64 t ∧ t ≤ ns ∧ ∃ d, wr = w4.drewN d) (fun i _ => (ns - intOf i).toNat)
  case atStart => exact ⟨0, rfl, by omega, 0, rfl⟩
  case round =>
    obtain ⟨t, rfl, ht, d, rfl⟩ := hrel
    by_cases hlt : t < ns
    · have d1 : decide ((t : Int) < (ns : Int)) = true := decide_eq_true (by omega)
      have d1' : decide (t < ns) = true := decide_eq_true hlt
      have d3 : (t : Int) < (ns : Int) := by omega
      obtain ⟨bb1, o1, rfl, k1'⟩ := h13.out.2.2 (by omega)
      obtain ⟨bb3, o3, rfl, k3⟩ := h3.out.2.2 (by omega)
      have x1 := k1' t hlt
      have x3 := k3 t hlt
      have u1 := upF.out t hlt
      have n1 := fun hh => noF.out t hh
      have g1 := (bF.out _ (getD_mem (show t < F.length by omega))).1
      by_cases hnx : t + 1 < ns
      · have x4 := k3 (t + 1) hnx
        have n2 := n1 hnx
        have e1 : decide ((t : Int) + 1 < (ns : Int)) = true := decide_eq_true (by omega)
        have e2 : (t : Int) + 1 < (ns : Int) := by omega
        have x5 := x4
        rw [← Nat.add_assoc] at x5
        clear k1' k3 n1
        generalize F.getD (t + 1) 0 = z at *
        generalize F.getD t 0 = x at *
        generalize S.getD t 0 = y at *
        have d5 : decide (x < 0) = false := decide_eq_false (by omega)
        have d6 : decide (y < x) = false := decide_eq_false (by omega)
        by_cases hxy : x < y
        · obtain rfl := n2 hxy
          have d7 : decide (x < y) = true := decide_eq_true hxy
          have d8 : decide ((0 : Int) < 0) = false := by simp
          clear n2
          go_wp2_with fail
          go_quiet (fail)
          go_wp2_with fail
          go_roundw
          case rel => exact ⟨t + 1, by go_num, by omega, _, rfl⟩
          case measure => simp [intOf]; omega
        · have d7 : decide (x < y) = false := decide_eq_false hxy
          clear n2
          go_wp2_with fail
          go_quiet (fail)
          go_wp2_with fail
          go_roundw
          case rel => exact ⟨t + 1, by go_num, by omega, _, rfl⟩
          case measure => simp [intOf]; omega
      · have e1 : decide ((t : Int) + 1 < (ns : Int)) = false := decide_eq_false (by omega)
        clear k1' k3 n1
        generalize F.getD t 0 = x at *
        generalize S.getD t 0 = y at *
        have d5 : decide (x < 0) = false := decide_eq_false (by omega)
        have d6 : decide (y < x) = false := decide_eq_false (by omega)
        go_wp2_with fail
        go_quiet (fail)
        go_wp2_with fail
        go_roundw
        case rel => exact ⟨t + 1, by go_num, by omega, _, rfl⟩
        case measure => simp [intOf]; omega
    · have et : t = ns := by omega
      have d1 : decide ((t : Int) < (ns : Int)) = false := decide_eq_false (by omega)
      have d1' : decide (t < ns) = false := decide_eq_false (by omega)
      replace et := Lib.hid et
      have h15 := Lib.hid (h13.out.drewN d)
      have h35 := Lib.hid (h3.out.drewN d)
      have B5 := Lib.hid (below_drewN B3.out d)
      obtain ⟨w5, hw5⟩ : ∃ w5, w4.drewN d = w5 := ⟨_, rfl⟩
      have s45 : w4.heap.size = w5.heap.size := by rw [← hw5]; rfl
      rw [hw5] at h15 h35 B5 ⊢
      clear hw5 h13 h3
      have HW := Within_any first k w5 (by omega) t1 t2
      rw [hm.out] at HW
      replace HW := Lib.hid HW
      go_wp2_with fail
      refine HW.out.mono ?_
      rintro e w6 ⟨rfl, rfl⟩
      clear HW
      have HS := FShare_any A1 ns c1 S (m : Int) w6 (by omega) (by omega) (by omega) h15
      rw [eb.out, hG] at HS
      replace HS := Lib.hid HS
      go_wp2_with fail
      refine HS.out.mono ?_
      rintro e w7 ⟨va, rfl, ra, b7⟩
      obtain ⟨A7, c7, rfl, h7, z7, l7, m7, at7⟩ := ra.slice iG.out
      rw [lG] at h7 l7 ra ⊢
      replace h7 := Lib.hid h7
      replace at7 := Lib.hid at7
      replace ra := Lib.hid ra
      have h17 := Lib.hid (h15.out.below b7)
      have h37 := Lib.hid (h35.out.below b7)
      have B7 := Lib.hid (below_up B5.out b7)
      have s67 := b7.size
      have g0 := Lib.hid (gone_nil S G)
      have R0 := Lib.hid (row_nil w7 w7.heap.size)
      have I0 := Lib.hid (ir_nil w7 w7.heap.size)
      have D0 := Lib.hid (Below.refl w7.heap.size w7)
      obtain ⟨g7, hg7⟩ : ∃ g7, w7.heap.size = g7 := ⟨_, rfl⟩
      rw [hg7] at R0 I0 D0
      replace hg7 := Lib.hid hg7
      clear HS b7 h15 h35
      go_wp2_with fail
      clear d1 d1'
      go_loopw [13, 14, 15] (fun u v i wr => ∃ (t : Nat) (L : List Int) (P : List Nat), i = .int .i64 t ∧ t ≤ ns ∧ Hid (Gone S G t L P) ∧ Hid (Row wr g7 u L) ∧ Hid (IR wr g7 v P) ∧ Hid (∀ q, u.ownBlock = some q → v.ownBlock ≠ some q) ∧ Hid (Below g7 w7 wr)) (fun _ _ i _ => (ns - intOf i).toNat)
      case atStart => exact ⟨0, [], [], rfl, by omega, g0, R0, I0, Lib.hid (fun q e => by cases e), D0⟩
      case round =>
        rename World => wo
        obtain ⟨t2, L, P, rfl, ht2, hGo, hL, hP, hne, hB⟩ := hrel
        by_cases hlt : t2 < ns
        · have d1 : decide ((t2 : Int) < (ns : Int)) = true := decide_eq_true (by omega)
          have d1' : decide (t2 < ns) = true := decide_eq_true hlt
          have d3 : (t2 : Int) < (ns : Int) := by omega
          have h1o := h17.out.below (hg7.out ▸ hB.out)
          have h7o := h7.out.below (hg7.out ▸ hB.out)
          obtain ⟨bb1, o1, rfl, k1'⟩ := h1o.2.2 (by omega)
          obtain ⟨bb7, o7, rfl, k7⟩ := h7o.2.2 (by omega)
          have x1 := k1' t2 hlt
          have x7 := k7 t2 hlt
          clear k1' k7 h1o h7o
          have u1 := upG.out t2 hlt
          have g1 := (bG.out _ (getD_mem (show t2 < G.length by omega))).1
          have g2 := (okS.out _ (getD_mem (show t2 < S.length by omega)))
          have skip := fun (he : G.getD t2 0 = S.getD t2 0) => hGo.out.skip (by omega) (by omega) he
          have take := fun (he : G.getD t2 0 < S.getD t2 0) => hGo.out.take (by omega) (by omega) he
          replace skip := Lib.hid skip
          replace take := Lib.hid take
          have few := hGo.out.few
          have plen := hGo.out.len
          have szo : g7 ≤ wo.heap.size := by rw [← hg7.out]; exact hB.out.size
          generalize G.getD t2 0 = x at *
          generalize S.getD t2 0 = y at *
          by_cases hxy : x < y
          · have d5 : decide (x < y) = true := decide_eq_true hxy
            go_wp2_with fail
            go_quiet (fail)
            have hL2 := Lib.hid (hL.out.drewN nq)
            have hP2 : Hid (IR (wo.drewN nq) g7 _ P) := Lib.hid (hP.out)
            have hB2 := Lib.hid (below_drewN hB.out nq)
            have y1 : (wo.drewN nq).cell? ⟨bb1, o1 + t2, none⟩ = some (.int .i64 y) := x1
            have y7 : (wo.drewN nq).cell? ⟨bb7, o7 + t2, none⟩ = some (.int .i64 x) := x7
            have sz2 : g7 ≤ (wo.drewN nq).heap.size := szo
            go_wp2_with fail
            generalize wo.drewN nq = wq at *
            clear hL hP hB x1 x7 szo
            have hw0 : (fun W : World => W.cell? ⟨bb1, o1 + t2, none⟩ = some (.int .i64 y) ∧ W.cell? ⟨bb7, o7 + t2, none⟩ = some (.int .i64 x)) wq := ⟨y1, y7⟩
            have hw1 : (fun W : World => W.cell? ⟨bb1, o1 + t2, none⟩ = some (.int .i64 y) ∧ W.cell? ⟨bb7, o7 + t2, none⟩ = some (.int .i64 x)) wq.drew := ⟨y1, y7⟩
            have hwa : ∀ o, (fun W : World => W.cell? ⟨bb1, o1 + t2, none⟩ = some (.int .i64 y) ∧ W.cell? ⟨bb7, o7 + t2, none⟩ = some (.int .i64 x)) (wq.alloc o).drew := fun o => ⟨(World.cell?_alloc_lt _ _ _ (World.block_lt_of_cell? wq _ y1)).trans y1, (World.cell?_alloc_lt _ _ _ (World.block_lt_of_cell? wq _ y7)).trans y7⟩
            have hwb : ∀ o, (fun W : World => W.cell? ⟨bb1, o1 + t2, none⟩ = some (.int .i64 y) ∧ W.cell? ⟨bb7, o7 + t2, none⟩ = some (.int .i64 x)) (wq.drew.alloc o) := hwa
            have wr1 : IntKind.i64.wrap (y - x) = y - x := IntWalk.i64_in _ (by omega)
            have O1 := Lib.hid ((hL2.out.alloc (.cells #[.int .i64 (y - x)] 2)).drewN 1)
            have q1 := Lib.hid (one_lit wq (y - x) 2 (by omega) (by omega))
            have sz3 : g7 ≤ (wq.alloc (.cells #[.int .i64 (y - x)] 2)).drew.heap.size := by
              have : (wq.alloc (.cells #[.int .i64 (y - x)] 2)).drew.heap.size = wq.heap.size + 1 := by simp
              omega
            have c1' := Lib.hid ((hB2.out.alloc sz2 (.cells #[.int .i64 (y - x)] 2)).drew)
            have lt1 : bb1 < g7 := by
              have q : bb1 < w2.heap.size := (at1.out _ rfl).2
              have := hg7.out
              omega
            have lt7 : bb7 < g7 := by
              have q : bb7 < w7.heap.size := (at7.out _ rfl).2
              have := hg7.out
              omega
            have hz8 : ∀ w8, ((wq.alloc (.cells #[.int .i64 (y - x)] 2)).drew).grownBy w8 u13.ownBlock → (fun W : World => W.cell? ⟨bb1, o1 + t2, none⟩ = some (.int .i64 y) ∧ W.cell? ⟨bb7, o7 + t2, none⟩ = some (.int .i64 x)) w8 := fun w8 gr => ⟨gr.cell (hwa _).1 (fun e => Nat.not_le_of_lt lt1 (Row.lt hL2.out e.symm).1), gr.cell (hwa _).2 (fun e => Nat.not_le_of_lt lt7 (Row.lt hL2.out e.symm).1)⟩
            go_region_held3 (fun W : World => W.cell? ⟨bb1, o1 + t2, none⟩ = some (.int .i64 y) ∧ W.cell? ⟨bb7, o7 + t2, none⟩ = some (.int .i64 x)) (first | with_reducible assumption | with_reducible exact hw0 | with_reducible exact hw1 | with_reducible exact hwa _ | with_reducible exact hwb _ | with_reducible exact z8)
              ((refine step_onto (w := (wq.alloc (.cells #[.int .i64 (y - x)] 2)).drew) (by rfl) (.tmp 112) (.tmp 122) 22 (by rfl) g7 i0 Try.underlying22 hi0 hy0 hy1 hy2 u13 L (by rfl) O1.out (some ⟨wq.heap.size, 0, none⟩) 1 1 [y - x] (by rfl) q1.out (fun e => by cases e) (by omega) sz3 ?_
                intro v8 w8 r8 gr8 at8; have z8 := hz8 w8 gr8))
            have b8 := Lib.hid (c1'.out.grown gr8 sz3 (fun q hq => (Row.lt hL2.out hq).1))
            have hP8 : Hid (IR w8 g7 u14 P) := Lib.hid ((show IR (wq.alloc (.cells #[.int .i64 (y - x)] 2)).drew g7 u14 P from hP2.out.alloc _).only (only_grown gr8) (fun q hq e => hne.out q e.symm hq))
            have hne8 : Hid (∀ q, v8.ownBlock = some q → u14.ownBlock ≠ some q) := Lib.hid (fun q hq e => by
              rcases at8 with hh | hh
              · rw [hh] at hq; exact hne.out q hq e
              · rw [hh] at hq
                injection hq with hq
                have := ((hP2.out.alloc (.cells #[.int .i64 (y - x)] 2)).lt e).2
                have e3 : (wq.alloc (.cells #[.int .i64 (y - x)] 2)).drew.heap.size = (wq.alloc (.cells #[.int .i64 (y - x)] 2)).heap.size := rfl
                omega)
            replace r8 := Lib.hid r8
            have sz8 : g7 ≤ w8.heap.size := by have := b8.out.size; rw [hg7.out] at this; exact this
            have sz9 : g7 ≤ (w8.alloc (.cells #[.int .i64 (t2 : Int)] 3)).heap.size := by simp; omega
            have P9 := Lib.hid (hP8.out.alloc (.cells #[.int .i64 (t2 : Int)] 3))
            have q9 : (w8.alloc (.cells #[.int .i64 (t2 : Int)] 3)).cell? ⟨w8.heap.size, 0, none⟩ = some (.int .i64 (t2 : Int)) := by simp
            have b9 := Lib.hid (b8.out.alloc sz8 (.cells #[.int .i64 (t2 : Int)] 3))
            have r9 := Lib.hid (r8.out.alloc (.cells #[.int .i64 (t2 : Int)] 3))
            clear z8 gr8 at8 hz8 hw0 hw1 hwa hwb y1 y7 q1 O1 wr1 c1' sz3 skip d5
            go_wp2_with (at_builtin; refine wpList_onto_i (by rfl) (.tmp 124) (.tmp 126) 32 (by rfl) g7 i1 Try.underlying32 hi1 hx0 hx1 hx2 u14 P (by rfl) P9.out ⟨w8.heap.size, 0, none⟩ 1 t2 (by rfl) q9 (by omega) sz9 ?_)
            intro v10 w10 r10 g10 o10
            have b10 := Lib.hid (b9.out.grown g10 sz9 (fun q hq => (hP8.out.lt hq).1))
            have rr10 := Lib.hid (r9.out.only (only_grown g10) (fun q hq e => hne8.out q hq e.symm))
            have hne10 : Hid (∀ q, v8.ownBlock = some q → v10.ownBlock ≠ some q) := Lib.hid (fun q hq e => by
              rcases o10 with hh | hh
              · rw [hh] at e; exact hne8.out q hq e
              · rw [hh] at e
                injection e with e
                have := (Row.lt r9.out hq).2
                (try simp only [World.size_alloc] at this)
                (try simp only [World.size_alloc] at e)
                omega)
            replace r10 := Lib.hid r10
            clear g10 o10 q9 P9
            go_wp2_with fail
            go_roundw
            case rel => exact ⟨t2 + 1, L ++ [y - x], P ++ [t2], by go_num, by omega, Lib.hid (take.out hxy), rr10, r10, hne10, b10⟩
            case measure => simp [intOf]; omega
          · have d5 : decide (x < y) = false := decide_eq_false hxy
            go_wp2_with fail
            go_quiet (fail)
            go_wp2_with fail
            go_roundw
            case rel => exact ⟨t2 + 1, L, P, by go_num, by omega, Lib.hid (skip.out (by omega)), hL, hP, hne, Lib.hid (below_drewN hB.out _)⟩
            case measure => simp [intOf]; omega
        · have et2 : t2 = ns := by omega
          have d1 : decide ((t2 : Int) < (ns : Int)) = false := decide_eq_false (by omega)
          have d1' : decide (t2 < ns) = false := decide_eq_false (by omega)
          have hGo2 := hGo.out
          rw [et2, ← hns] at hGo2
          have hR3 := leftG.out L P hGo2
          obtain ⟨-, okL, -, -⟩ := (right_iff _ _).1 hR3
          have lL : L.length ≤ 40 := by have := hGo2.few; omega
          have lP : P.length = L.length := hGo2.len
          have ec := share_yes hR3
          have lE := fill_len L ((k : Int) - (m : Int))
          have bE := fill_mem L ((k : Int) - (m : Int)) (fun x hx => by have := okL x hx; omega) (by omega)
          have iE := share_I64 L ((k : Int) - (m : Int))
          rw [ec] at iE
          have sec := fun j hj => secG.out L P j hGo2 hj
          have both := fun Y hY => bothG.out L P Y hGo2 hY
          have iL : ∀ x ∈ L, I64 x := fun x hx => by have := okL x hx; exact ⟨by omega, by omega⟩
          obtain ⟨A13, c13, rfl, h13, -, l13, m13, at13⟩ := hL.out.slice iL
          obtain ⟨A14, c14, rfl, l14, m14, z14, k14⟩ := hP.out.slice
          have own14 := fun q hq => hP.out.lt (k := q) hq
          obtain ⟨nl, hnl⟩ : ∃ nl, L.length = nl := ⟨_, rfl⟩
          rw [hnl] at lL lP lE h13 l13
          rw [lP] at l14 k14
          rw [hnl] at sec both
          have eachP := hGo2.each
          have injP := hGo2.inj
          rw [hnl] at eachP injP
          replace eachP : Hid (∀ j, j < nl → P.getD j 0 < ns) := Lib.hid (fun j hj => by rw [← hns]; exact (eachP j hj).1)
          replace injP := Lib.hid injP
          replace h13 := Lib.hid h13
          replace k14 := Lib.hid k14
          replace own14 := Lib.hid own14
          have HS := FShare_any A13 nl c13 L ((k : Int) - (m : Int)) wo (by omega) (by omega) (by omega) h13
          rw [ec] at HS
          obtain ⟨E, hE⟩ : ∃ E, fillL L ((k : Int) - (m : Int)) = E := ⟨_, rfl⟩
          rw [hE] at HS lE bE iE
          simp only [hE] at sec
          replace HS := Lib.hid HS
          replace sec := Lib.hid sec
          replace both := Lib.hid both
          replace bE := Lib.hid bE
          replace iE := Lib.hid iE
          replace et2 := Lib.hid et2
          clear hGo2 hGo hR3 okL ec iL hE leftG secG bothG at13 R0 I0 D0 g0
          have dl : ((nl : Int) != (nl : Int)) = false := by simp
          have szo : g7 ≤ wo.heap.size := by rw [← hg7.out]; exact hB.out.size
          go_wp2_with fail
          (try rw [lP])
          (try rw [hnl])
          refine HS.out.mono ?_
          rintro e wb ⟨v, rfl, r16, b16⟩
          obtain ⟨A16, c16, rfl, h16, -, l16, m16, at16⟩ := r16.slice iE.out
          rw [lE] at h16 l16 ⊢
          replace h16 := Lib.hid h16
          replace at16 := Lib.hid at16
          have hPb := Lib.hid (hP.out.below b16)
          have hBb := Lib.hid (hB.out.trans (b16.mono szo))
          have rab := Lib.hid (ra.out.below (hg7.out ▸ hBb.out))
          have szb := b16.size
          rw [lP] at hPb
          clear HS r16 b16 hP hB
          go_wp2_with fail
          have Y0 := Lib.hid (added_zero G F P ns lG)
          have O0 := Lib.hid (Only.refl (fun q => (Value.slice A7 ns c7).ownBlock = some q) wb)
          clear d1 d1'
          go_loopw [17] (fun i wr => ∃ (t : Nat) (Y : List Int), i = .int .i64 t ∧ t ≤ nl ∧ Hid (AddedX G F P ns t Y) ∧ Hid (Row wr w6.heap.size (.slice A7 ns c7) Y) ∧ Hid (Only (fun q => (Value.slice A7 ns c7).ownBlock = some q) wb wr)) (fun i _ => (nl - intOf i).toNat)
          case atStart => exact ⟨0, G, rfl, by omega, Y0, rab, O0⟩
          case round =>
            rename World => wr3
            obtain ⟨t3, Y, rfl, ht3, hY, hR7, hO⟩ := hrel
            by_cases hlt : t3 < nl
            · have d1 : decide ((t3 : Int) < (nl : Int)) = true := decide_eq_true (by omega)
              have d1' : decide (t3 < nl) = true := decide_eq_true hlt
              have d3 : (t3 : Int) < (nl : Int) := by omega
              have hp := eachP.out t3 hlt
              have lY := hY.out.1.1
              obtain ⟨ga, ca, ev, gb1, gb2, -, -, hfz, hcl⟩ := hR7.out.open' (by omega)
              rw [lY] at ev
              injection ev with ev _ ev3
              subst ev; subst ev3
              have hown : ∀ q, q ≠ ga → ¬ (fun q => (Value.slice (some ⟨ga, 0, none⟩) ns c7).ownBlock = some q) q := fun q hq e => by
                have e1 : some ga = some q := e
                injection e1 with e1
                exact hq e1.symm
              have ltga : ga < g7 := by
                have q : ga < w7.heap.size := (at7.out _ rfl).2
                have := hg7.out
                omega
              obtain ⟨ge, rfl, kge⟩ := k14.out t3 hlt
              have geg : g7 ≤ ge := (own14.out ge rfl).1
              have gel : ge < wo.heap.size := (own14.out ge rfl).2
              have hAt := hPb.out.only hO.out (fun q hq => hown q (fun e => by subst e; have e1 : some ge = some q := hq; injection e1 with e1; omega))
              obtain ⟨A14', c14', e14, -, -, -, k14'⟩ := hAt.slice
              injection e14 with e14 e14a e14b
              subst e14; subst e14b
              obtain ⟨ge', e15, x14⟩ := k14' t3 (by omega)
              injection e15 with e15
              injection e15 with e15
              subst e15
              obtain ⟨b16, o16, rfl, -⟩ := h16.out.2.2 (by omega)
              have b16l : wo.heap.size ≤ b16 := (at16.out _ rfl).1
              have h16' := h16.out.only hO.out (fun ad e => by injection e with e; subst e; exact hown _ (by simp only; omega))
              obtain ⟨b16', o16', e16, k16⟩ := h16'.2.2 (by omega)
              injection e16 with e16
              injection e16 with e16 e17
              subst e16; subst e17
              have x16 := k16 t3 hlt
              have s1' := sec.out t3 hlt
              have hG2 := hY.out.1.2 (P.getD t3 0) hp (fun j hj e => by
                have := injP.out j t3 (by omega) hlt e
                omega)
              have xa := hcl (P.getD t3 0) (by omega)
              rw [hG2] at xa
              have bE1 := bE.out _ (getD_mem (show t3 < E.length by omega))
              have bG1 := bG.out _ (getD_mem (show P.getD t3 0 < G.length by omega))
              have nxt := hY.out.next hp s1' (fun j hj e => by
                have := injP.out j t3 (by omega) hlt e
                omega)
              have rset := (show Row wr3.drew w6.heap.size _ Y from hR7.out).set (k := P.getD t3 0) (by omega) (G.getD (P.getD t3 0) 0 + E.getD t3 0)
              have oset := (hO.out.drewN 1).trans ((set_only wr3.drew ga (P.getD t3 0) (.int .i64 (G.getD (P.getD t3 0) 0 + E.getD t3 0))).mono (fun q _ e => by show some ga = some q; rw [e]))
              have fz := hfz (P.getD t3 0)
              replace nxt := Lib.hid nxt
              replace rset := Lib.hid rset
              replace oset := Lib.hid oset
              clear hcl hfz k14' k16 hG2 s1' e14a hown hAt h16' gel geg b16l
              generalize P.getD t3 0 = p at *
              generalize G.getD p 0 = x at *
              generalize E.getD t3 0 = y at *
              have d4 : (p : Int) < (ns : Int) := by omega
              have wr1 : IntKind.i64.wrap (x + y) = x + y := IntWalk.i64_in _ (by omega)
              go_wp2_with fail
              go_still_tail 18, (by kernel_rfl)
              have fz2 : wr3.drew.frozen? ⟨ga, p, none⟩ = false := fz
              have xa2 : wr3.drew.cell? ⟨ga, p, none⟩ = some (.int .i64 x) := xa
              change wpList _ _ _ _ _ wr3.drew
              generalize wr3.drew = wd at *
              clear fz xa x14 x16 kge
              go_wp2_with fail
              go_roundw
              case rel => exact ⟨t3 + 1, Y.set p (x + y), by go_num, by omega, nxt, rset, oset⟩
              case measure => simp [intOf]; omega
            · have et3 : t3 = nl := by omega
              have d1 : decide ((t3 : Int) < (nl : Int)) = false := decide_eq_false (by omega)
              have d1' : decide (t3 < nl) = false := decide_eq_false (by omega)
              have hYF : Y = F := both.out Y (by rw [hns, ← et3]; exact hY.out)
              replace et3 := Lib.hid et3
              obtain ⟨A17, c17, e17, h17', -, -, -, -⟩ := hR7.out.slice (by rw [hYF]; exact iF.out)
              rw [hYF, lF] at e17 h17'
              injection e17 with e17a e17b e17c
              subst e17a; subst e17c
              replace h17' := Lib.hid h17'
              have h3b := Lib.hid (h37.out.below (hg7.out ▸ hBb.out))
              have h3c := Lib.hid (h3b.out.only hO.out (fun ad e q => by
                have q1 := (at3.out ad e).2
                have q2 := (Row.lt ra.out q).1
                omega))
              have B8 := Lib.hid (B7.out.trans (hBb.out.mono (by rw [← hg7.out]; exact B7.out.size)))
              go_wp2_with fail
              refine (Same_yes A7 A3 ns c7 c3 F _ (by omega) h17' h3c).mono ?_
              rintro e wx ⟨rfl, dx, rfl⟩
              have Bo := hO.out.below (B := w.heap.size) (by have := B8.out.size; exact this) (fun q hq e => by
                have := (Row.lt ra.out e).1
                have := B5.out.size
                omega)
              have B9 := Lib.hid (below_drewN (B8.out.trans Bo) dx)
              clear Bo
              go_wp2_with fail
              refine (Known_any _).mono ?_
              rintro e wz ⟨rfl, bz⟩
              have B10 := Lib.hid (below_up B9.out bz)
              clear bz
              go_wp2_with fail
              go_ret
              exact ⟨rfl, B10.out⟩
end Go.Proofs.Ytbdabcdpgbpadaa

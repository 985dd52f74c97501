/-
  The document's shares by the rule of a product.
-/
import Derived.Test.YtabogoonbapjiaaAlShare
import Derived.Test.YtabogoonbapjiaaPrRef
import Derived.Test.YtabogoonbapjiaaSpRef
import Derived.Deep.Cut
namespace Go.Proofs.Ytabogoonbapjiaa
open Go.RowKit
set_option linter.unusedVariables false
set_option linter.unusedSimpArgs false

theorem cells_kept {W0 W : World} {pb : Nat} {cs : Array Value} {T : TypeId} (h : W0.heap[pb]? = some (.cells cs T (0, 0))) (b : Below (pb + 1) W0 W) (i : Nat) : W.cell? ⟨pb, i, none⟩ = cs[i]? := by
  rw [Lib.cell_of_heap ((b.block pb (by omega)).trans h)]
set_option maxRecDepth 100000 in
set_option maxHeartbeats 3200000 in
theorem RAlloc_any (p : PD) (A : Option Addr) (n cap : Nat) (L : List Or) (q : Int) (w : World) (hn : n ≤ 1000) (q1 : -9223372036854775808 ≤ q) (q2 : q ≤ 9223372036854775807) (hp : Hid p.Can) (h : Hid (HV fO w A n L)) (hok : Hid (OkO L)) :
    Calls Try.prog 10 #[p.val, .slice A n cap, .int .i64 q] w (Gave w (allocL p.rule p.top p.least p.part L q)) := by
  obtain ⟨⟨r1, r2⟩, ⟨t1, t2⟩, ⟨m1, m2⟩, ⟨p1, p2⟩⟩ := hp.out
  obtain ⟨code, A1, n1, c1, tick, low, high, wide, rule, top, least, part, A2, n2, c2, Q, R⟩ := p
  simp only at r1 r2 t1 t2 m1 m2 p1 p2
  clear hp
  show Calls Try.prog 10 #[.agg #[.string (str code), .slice A1 n1 c1, .int .i64 tick, .int .i64 low, .int .i64 high, .int .i64 wide, .int .i64 rule, .int .i64 top, .int .i64 least, .int .i64 part, .slice A2 n2 c2], .slice A n cap, .int .i64 q] w (Gave w (allocL rule top least part L q))
  obtain ⟨i0, hi0, hz0, hz1, hz2⟩ := info_parts info_num
  have hlen := h.out.1
  have hql := qtys_len L
  have iQ : Hid (∀ x ∈ qtys L, I64 x) := Lib.hid hok.out.nums
  obtain ⟨tp1, tp2⟩ := topO_range L
  rw [hlen] at hql tp2
  have hex : Hid (∀ k, k < n → ∃ x, L[k]? = some x) := Lib.hid (fun k hk => or_at (by omega))
  have hend : Hid (topO (L.take n) = topO L) := Lib.hid (by rw [List.take_of_length_le (by omega)])
  have hnext : Hid (∀ k x, L[k]? = some x → (qtys L).take (k + 1) = (qtys L).take k ++ [x.n]) := Lib.hid (fun k x hx => by rw [← qtys_take, or_next hx, ← qtys_take]; simp [qtys])
  obtain ⟨X, eX⟩ : ∃ X, allocL rule top least part L q = X := ⟨_, rfl⟩
  obtain ⟨S, eS⟩ : ∃ S, qtys L = S := ⟨_, rfl⟩
  obtain ⟨tp, etp⟩ : ∃ tp, topO L = tp := ⟨_, rfl⟩
  have hX1 : Hid (rule = 1 → shareL S q = X) := Lib.hid (fun e => by rw [← eX, alloc_first e, eS])
  have hX2 : Hid (rule = 2 → topL S tp top least q = X) := Lib.hid (fun e => by rw [← eX, alloc_share e, eS, etp])
  have hX3 : Hid (rule = 3 → splitL S part least q = X) := Lib.hid (fun e => by rw [← eX, alloc_mixed e, eS])
  have hX4 : Hid (rule ≠ 1 → rule ≠ 2 → rule ≠ 3 → [] = X) := Lib.hid (fun a b c => by rw [← eX, alloc_no a b c])
  rw [eS] at hql iQ hnext
  rw [etp] at tp1 tp2 hend
  rw [eX]
  have hfull : Hid (S.take n = S) := Lib.hid (List.take_of_length_le (by omega))
  clear eX eS etp
  replace hlen := Lib.hid hlen
  show Calls Try.prog 10 #[.agg #[.string (str code), .slice A1 n1 c1, .int .i64 tick, .int .i64 low, .int .i64 high, .int .i64 wide, .int .i64 rule, .int .i64 top, .int .i64 least, .int .i64 part, .slice A2 n2 c2], .slice A n cap, .int .i64 q] w _
  obtain ⟨W0, eW0⟩ : ∃ W0, w.alloc (.cells #[.string (str code), .slice A1 n1 c1, .int .i64 tick, .int .i64 low, .int .i64 high, .int .i64 wide, .int .i64 rule, .int .i64 top, .int .i64 least, .int .i64 part, .slice A2 n2 c2] 28) = W0 := ⟨_, rfl⟩
  obtain ⟨pb, epb⟩ : ∃ pb, w.heap.size = pb := ⟨_, rfl⟩
  have hblk0 : Hid (W0.heap[pb]? = some (.cells #[.string (str code), .slice A1 n1 c1, .int .i64 tick, .int .i64 low, .int .i64 high, .int .i64 wide, .int .i64 rule, .int .i64 top, .int .i64 least, .int .i64 part, .slice A2 n2 c2] 28 (0, 0))) := Lib.hid (by rw [← eW0, ← epb]; exact heap_alloc_new w _)
  have hB0 : Hid (Below pb w W0) := Lib.hid (by rw [← eW0, ← epb]; exact (Below.refl _ w).alloc (Nat.le_refl _) _)
  have s0 : Hid (pb < W0.heap.size) := Lib.hid (Array.getElem?_eq_some_iff.1 hblk0.out).1
  replace eW0 := Lib.hid eW0
  replace epb := Lib.hid epb
  have a6 : (w.alloc (.cells #[.string (str code), .slice A1 n1 c1, .int .i64 tick, .int .i64 low, .int .i64 high, .int .i64 wide, .int .i64 rule, .int .i64 top, .int .i64 least, .int .i64 part, .slice A2 n2 c2] 28)).cell? ⟨w.heap.size, 6, none⟩ = some (.int .i64 rule) := by rw [eW0.out, epb.out, Lib.cell_of_heap hblk0.out]; rfl
  have hs1 : W0.heap.size = pb + 1 := by rw [← eW0.out, World.size_alloc, epb.out]
  have HV0 : Hid (∀ W, Below (pb + 1) W0 W → HV fO W A n L) := Lib.hid (fun W b => (h.out.below (show Below w.heap.size w W0 from by rw [epb.out]; exact hB0.out)).below (by rw [hs1]; exact b))
  have hout : Hid (∀ W, Below (pb + 1) W0 W → Below pb w W) := Lib.hid (fun W b => hB0.out.trans (b.mono (by omega)))
  have KK : Hid (∀ W, Below (pb + 1) W0 W → W.cell? ⟨pb, 6, none⟩ = some (.int .i64 rule) ∧ W.cell? ⟨pb, 7, none⟩ = some (.int .i64 top) ∧ W.cell? ⟨pb, 8, none⟩ = some (.int .i64 least) ∧ W.cell? ⟨pb, 9, none⟩ = some (.int .i64 part)) := Lib.hid (fun W b => ⟨cells_kept hblk0.out b 6, cells_kept hblk0.out b 7, cells_kept hblk0.out b 8, cells_kept hblk0.out b 9⟩)
  have R0 := Lib.hid (row_nil W0 (pb + 1))
  have B0 := Lib.hid (Below.refl (pb + 1) W0)
  have hsz : Hid (∀ W, Below (pb + 1) W0 W → pb + 1 ≤ W.heap.size) := Lib.hid (fun W b => by have := b.size; omega)
  replace hs1 := Lib.hid hs1
  clear h hblk0 hB0 s0
  go_enter Try.func10, Try.ntmps10
  go_wp2_with fail
  rw [eW0.out, epb.out]
  clear a6 eW0
  go_loopw [7, 8, 9] (fun u tv iv wr => ∃ (k : Nat) (m : Int), iv = .int .i64 k ∧ tv = .int .i64 m ∧ k ≤ n ∧ Hid (topO (L.take k) = m) ∧ -1 ≤ m ∧ m ≤ n ∧ Hid (Row wr (pb + 1) u (S.take k)) ∧ Hid (Below (pb + 1) W0 wr)) (fun _ _ i _ => n - (intOf i).toNat)
  case atStart => exact ⟨0, -1, rfl, rfl, by omega, Lib.hid (by rw [List.take_zero]; exact topO_nil), by omega, by omega, by simpa using R0, B0⟩
  case round =>
    clear R0 B0
    obtain ⟨k, m, rfl, rfl, hk, hm, m1', m2', hR, hB⟩ := hrel
    by_cases hlt : k < n
    · obtain ⟨x, hx⟩ := hex.out k hlt
      have HW := HV0.out _ hB.out
      obtain ⟨b, off, rfl, c0, c1, c2, c3, c4⟩ := HW.atO hx
      have hnx := hnext.out k x hx
      obtain ⟨n1, n2⟩ := (hok.out.at' hx).n
      have hst := topO_step hx
      rw [hm.out] at hst
      obtain ⟨xi, xs, xp, xn, xt⟩ := x
      simp only at c0 c1 c2 c3 c4 hnx n1 n2 hst
      have hw := hsz.out _ hB.out
      have htl : (S.take k).length ≤ 1000 := by rw [List.length_take]; omega
      have d1 : decide ((k : Int) < (n : Int)) = true := decide_eq_true (by omega)
      have d1' : (k : Int) < (n : Int) := by omega
      replace hx := Lib.hid hx
      replace hnx := Lib.hid hnx
      replace hst := Lib.hid hst
      have h1 := one_lit wr xn 2 n1 n2
      have hb1 : pb + 1 ≤ (wr.alloc (.cells #[.int .i64 xn] 2)).heap.size := by simp; omega
      have ba := Lib.hid (hB.out.alloc hw (.cells #[.int .i64 xn] 2))
      replace h1 := Lib.hid h1
      clear HW c0 c1 c2
      go_wp2_with (at_builtin; refine wpList_onto (by rfl) (.tmp 16) (.tmp 22) 26 (by rfl) (pb + 1) i0 Try.underlying26 hi0 hz0 hz1 hz2 _ _ (by rfl) (hR.out.alloc _) _ 1 1 [xn] (by rfl) h1.out (fun e => by cases e) (by omega) hb1 ?_)
      intro v3 w3 r3 g3 o3
      rw [← hnx.out] at r3
      have B3 := Lib.hid (ba.out.grown g3 hb1 (fun q hq => (Row.lt hR.out hq).1))
      replace r3 := Lib.hid r3
      obtain ⟨b', off', e', -, -, -, -, c4⟩ := (HV0.out _ B3.out).atO hx.out
      injection e' with e'
      injection e' with e1 e2
      subst e1; subst e2
      simp only at c4
      clear g3 o3 c3
      cases xt with
      | true =>
        by_cases h0 : m < 0
        · have d2 : decide (m < 0) = true := decide_eq_true h0
          have e : topO (L.take (k + 1)) = (k : Int) := by rw [hst.out, if_pos h0, if_pos rfl]
          replace e := Lib.hid e
          go_wp2_with fail
          go_roundw
          case rel => exact ⟨k + 1, k, by go_num, rfl, by omega, e, by omega, by omega, r3, B3⟩
          case measure => simp [intOf]; omega
        · have d2 : decide (m < 0) = false := decide_eq_false h0
          have e : topO (L.take (k + 1)) = m := by rw [hst.out, if_neg h0]
          replace e := Lib.hid e
          go_wp2_with fail
          go_roundw
          case rel => exact ⟨k + 1, m, by go_num, rfl, by omega, e, by omega, by omega, r3, B3⟩
          case measure => simp [intOf]; omega
      | false =>
        have e : topO (L.take (k + 1)) = m := by
          rw [hst.out]
          by_cases h0 : m < 0
          · rw [if_pos h0, if_neg (by decide)]; omega
          · rw [if_neg h0]
        replace e := Lib.hid e
        go_wp2_with fail
        go_roundw
        case rel => exact ⟨k + 1, m, by go_num, rfl, by omega, e, by omega, by omega, r3, B3⟩
        case measure => simp [intOf]; omega
    · obtain rfl : k = n := by omega
      have d1 : decide ((k : Int) < (k : Int)) = false := by simp
      have hm2 : m = tp := by rw [← hm.out]; exact hend.out
      subst hm2
      rw [hfull.out] at hR
      obtain ⟨Aq, cq, rfl, hq, -, lq, -, -⟩ := hR.out.slice iQ.out
      rw [hql] at hq lq ⊢
      replace hq := Lib.hid hq
      obtain ⟨k6, k7, k8, k9⟩ := KK.out _ hB.out
      have B2 := Lib.hid (hout.out _ hB.out)
      have g2 : Hid (pb ≤ wr.heap.size) := Lib.hid (by have := hsz.out _ hB.out; omega)
      clear hR
      by_cases h1 : rule = 1
      · have e1 := hX1.out h1
        subst h1
        replace e1 := Lib.hid e1
        clear hX1 hX2 hX3 hX4
        have HS := RShare_any Aq k cq S q wr (by omega) q1 q2 hq
        rw [e1.out] at HS
        replace HS := Lib.hid HS
        go_wp2_with fail
        refine HS.out.mono ?_
        rintro e w3 ⟨v, rfl, r3, b3⟩
        replace r3 := Lib.hid (r3.base g2.out)
        have B3 := Lib.hid (B2.out.trans (b3.mono g2.out))
        clear HS b3
        go_wp2_with fail
        go_ret
        exact ⟨v, rfl, by rw [epb.out]; exact r3.out, by rw [epb.out]; exact B3.out⟩
      have n1' : (rule == 1) = false := beq_eq_false_iff_ne.2 h1
      have m1' : decide (rule = 1) = false := decide_eq_false h1
      by_cases h2 : rule = 2
      · have e1 := hX2.out h2
        subst h2
        replace e1 := Lib.hid e1
        clear hX1 hX2 hX3 hX4
        have HS := PRShare_any Aq k cq S m top least q wr (by omega) (by omega) (by omega) t1 t2 m1 m2 q1 q2 hq
        rw [e1.out] at HS
        replace HS := Lib.hid HS
        go_wp2_with fail
        refine HS.out.mono ?_
        rintro e w3 ⟨v, rfl, r3, b3⟩
        replace r3 := Lib.hid (r3.base g2.out)
        have B3 := Lib.hid (B2.out.trans (b3.mono g2.out))
        clear HS b3
        go_wp2_with fail
        go_ret
        exact ⟨v, rfl, by rw [epb.out]; exact r3.out, by rw [epb.out]; exact B3.out⟩
      have n2' : (rule == 2) = false := beq_eq_false_iff_ne.2 h2
      have m2' : decide (rule = 2) = false := decide_eq_false h2
      by_cases h3 : rule = 3
      · have e1 := hX3.out h3
        subst h3
        replace e1 := Lib.hid e1
        clear hX1 hX2 hX3 hX4
        have HS := RSplit_any Aq k cq S part least q wr (by omega) p1 p2 m1 m2 q1 q2 hq
        rw [e1.out] at HS
        replace HS := Lib.hid HS
        go_wp2_with fail
        refine HS.out.mono ?_
        rintro e w3 ⟨v, rfl, r3, b3⟩
        replace r3 := Lib.hid (r3.base g2.out)
        have B3 := Lib.hid (B2.out.trans (b3.mono g2.out))
        clear HS b3
        go_wp2_with fail
        go_ret
        exact ⟨v, rfl, by rw [epb.out]; exact r3.out, by rw [epb.out]; exact B3.out⟩
      have n3' : (rule == 3) = false := beq_eq_false_iff_ne.2 h3
      have m3' : decide (rule = 3) = false := decide_eq_false h3
      have e1 := Lib.hid (hX4.out h1 h2 h3)
      clear hX1 hX2 hX3 hX4
      go_wp2_with fail
      go_ret
      exact ⟨_, rfl, by rw [← e1.out]; exact row_nil _ _, by rw [epb.out]; exact B2.out⟩
end Go.Proofs.Ytabogoonbapjiaa

/-
  The program's implied quotes whose prices may be: Quotes.
-/
import Derived.Test.YtdeofifidjbolaaIpAll
import Derived.Test.YtdeofifidjbolaaImQuotes
import Derived.Test.YtdeofifidjbolaaGcRd
namespace Go.Proofs.Ytdeofifidjbolaa
open Go.RowKit
set_option linter.unusedVariables false
set_option linter.unusedSimpArgs false

/-- What is answered is a row of the call's own. -/
def OwnQ (base : Nat) (w : World) (L : List Qt) (e : Ending) (w' : World) : Prop := ∃ v, e = .returned v ∧ Own fQt 37 w' base v L ∧ Below w.heap.size w w'
set_option maxRecDepth 100000 in
set_option maxHeartbeats 8000000 in
theorem PQuotes_own (p : PD) (AT : Option Addr) (nT cT : Nat) (T : List Tp) (inst side : Int) (w : World) (hp : Hid (p.Ok w)) (hT : Hid (HV fTp w AT nT T)) (hOT : Hid (OkT T)) (hi : I64 inst) (hs : I64 side) (hn : nT ≤ 9223372036854775807) :
    Calls Try.prog 13 #[p.val, .slice AT nT cT, .int .i64 inst, .int .i64 side] w (OwnQ w.heap.size w (quotesQ p T inst side)) := by
  obtain ⟨i0, hi0, hz0, hz1, hz2⟩ := info_parts info_pquote
  have hlen := allQ_len (p := p) (T := T) (inst := inst) (side := side)
  have hokA := allQ_ok (p := p) hOT.out inst side
  have HA : Hid (∀ W, Below w.heap.size w W → Calls Try.prog 14 #[p.val, .slice AT nT cT, .int .i64 inst, .int .i64 side] W (AnsQ W.heap.size W (allQ p T inst side))) := Lib.hid (fun W b => PAll14_any p AT nT cT T inst side W (Lib.hid (hp.out.below b)) (Lib.hid (hT.out.below b)) hOT hi hs hn)
  have HP : Hid (∀ (W : World) (x : Int), I64 x → Below w.heap.size w W → Calls Try.prog 21 #[p.val, .int .i64 inst, .int .i64 x] W fun e w' => e = .returned (.int .i64 (priceL p inst x)) ∧ Below W.heap.size W w') := Lib.hid (fun W x hx b => PPrice_any p inst x W (Lib.hid (hp.out.below b)) hi hx)
  have hQ : quotesQ p T inst side = (allQ p T inst side).filter (fun q => decide (priceL p inst q.p = 0)) := rfl
  obtain ⟨L, eL⟩ : ∃ L, allQ p T inst side = L := ⟨_, rfl⟩
  rw [eL] at hlen hokA HA hQ
  obtain ⟨pf, epf⟩ : ∃ f : Int → Nat, (fun x => priceL p inst x) = f := ⟨_, rfl⟩
  replace HP : Hid (∀ (W : World) (x : Int), I64 x → Below w.heap.size w W → Calls Try.prog 21 #[p.val, .int .i64 inst, .int .i64 x] W fun e w' => e = .returned (.int .i64 (pf x : Int)) ∧ Below W.heap.size W w') := Lib.hid (by rw [← epf]; exact HP.out)
  have hQ2 : quotesQ p T inst side = L.filter (fun q => decide (pf q.p = 0)) := by rw [hQ, ← epf]
  rw [hQ2]
  clear hQ hQ2 epf eL hp hT hOT
  have hnx : Hid (∀ k x, L[k]? = some x → (L.take (k + 1)).filter (fun q => decide (pf q.p = 0)) = (L.take k).filter (fun q => decide (pf q.p = 0)) ++ (if decide (pf x.p = 0) = true then [x] else [])) := Lib.hid (fun k x h => filter_next _ h)
  have hfl : Hid (∀ k, ((L.take k).filter (fun q => decide (pf q.p = 0))).length ≤ 100) := Lib.hid (fun k => Nat.le_trans (List.length_filter_le _ _) (by rw [List.length_take]; omega))
  obtain ⟨G, eG⟩ : ∃ G : Nat → List Qt, (fun k => (L.take k).filter (fun q => decide (pf q.p = 0))) = G := ⟨_, rfl⟩
  have G0 : Hid (G 0 = []) := Lib.hid (by rw [← eG]; rfl)
  obtain ⟨n, en⟩ : ∃ n, L.length = n := ⟨_, rfl⟩
  have Gn : Hid (G n = L.filter (fun q => decide (pf q.p = 0))) := Lib.hid (by rw [← eG, ← en]; show (L.take L.length).filter _ = _; rw [List.take_length])
  replace hnx : Hid (∀ k x, L[k]? = some x → G (k + 1) = G k ++ (if decide (pf x.p = 0) = true then [x] else [])) := Lib.hid (fun k x h => by rw [← eG]; exact hnx.out k x h)
  replace hfl : Hid (∀ k, (G k).length ≤ 100) := Lib.hid (fun k => by rw [← eG]; exact hfl.out k)
  have hex : Hid (∀ k, k < n → ∃ x, L[k]? = some x) := Lib.hid (fun k hk => qt_at (by omega))
  obtain ⟨RQ, hRQ⟩ : ∃ R, L.filter (fun q => decide (pf q.p = 0)) = R := ⟨_, rfl⟩
  rw [hRQ] at Gn ⊢
  rw [en] at hlen
  replace hokA := Lib.hid hokA
  clear eG hRQ
  replace en := Lib.hid en
  obtain ⟨code, A1, n1, c1, tick, low, high, wide, rule, top, least, part, A2, n2, c2, Q, R⟩ := p
  replace HA : Hid (∀ W, Below w.heap.size w W → Calls Try.prog 14 #[.agg #[.string (str code), .slice A1 n1 c1, .int .i64 tick, .int .i64 low, .int .i64 high, .int .i64 wide, .int .i64 rule, .int .i64 top, .int .i64 least, .int .i64 part, .slice A2 n2 c2], .slice AT nT cT, .int .i64 inst, .int .i64 side] W (AnsQ W.heap.size W L)) := HA
  replace HP : Hid (∀ (W : World) (x : Int), I64 x → Below w.heap.size w W → Calls Try.prog 21 #[.agg #[.string (str code), .slice A1 n1 c1, .int .i64 tick, .int .i64 low, .int .i64 high, .int .i64 wide, .int .i64 rule, .int .i64 top, .int .i64 least, .int .i64 part, .slice A2 n2 c2], .int .i64 inst, .int .i64 x] W fun e w' => e = .returned (.int .i64 (pf x : Int)) ∧ Below W.heap.size W w') := HP
  show Calls Try.prog 13 #[.agg #[.string (str code), .slice A1 n1 c1, .int .i64 tick, .int .i64 low, .int .i64 high, .int .i64 wide, .int .i64 rule, .int .i64 top, .int .i64 least, .int .i64 part, .slice A2 n2 c2], .slice AT nT cT, .int .i64 inst, .int .i64 side] w _
  obtain ⟨W0, eW0⟩ : ∃ W0, w.alloc (.cells #[.string (str code), .slice A1 n1 c1, .int .i64 tick, .int .i64 low, .int .i64 high, .int .i64 wide, .int .i64 rule, .int .i64 top, .int .i64 least, .int .i64 part, .slice A2 n2 c2] 25) = W0 := ⟨_, rfl⟩
  obtain ⟨g, eg⟩ : ∃ g, w.heap.size = g := ⟨_, rfl⟩
  have hblk0 : W0.heap[g]? = some (.cells #[.string (str code), .slice A1 n1 c1, .int .i64 tick, .int .i64 low, .int .i64 high, .int .i64 wide, .int .i64 rule, .int .i64 top, .int .i64 least, .int .i64 part, .slice A2 n2 c2] 25 (0, 0)) := by rw [← eW0, ← eg]; exact heap_alloc_new w _
  have b00 : Below w.heap.size w W0 := by rw [← eW0]; exact (Below.refl _ w).alloc (Nat.le_refl _) _
  have KK : Hid (∀ W, Below W0.heap.size W0 W → W.heap[g]? = some (.cells #[.string (str code), .slice A1 n1 c1, .int .i64 tick, .int .i64 low, .int .i64 high, .int .i64 wide, .int .i64 rule, .int .i64 top, .int .i64 least, .int .i64 part, .slice A2 n2 c2] 25 (0, 0))) := Lib.hid (fun W b => (b.block g (Array.getElem?_eq_some_iff.1 hblk0).1).trans hblk0)
  have BW : Hid (∀ W, Below W0.heap.size W0 W → Below w.heap.size w W) := Lib.hid (fun W b => b00.trans (b.mono b00.size))
  obtain ⟨a0, a1, a2, a3, a4, a5, a6, a7, a8, a9, a10⟩ := row11 (heap_alloc_new w (.cells #[.string (str code), .slice A1 n1 c1, .int .i64 tick, .int .i64 low, .int .i64 high, .int .i64 wide, .int .i64 rule, .int .i64 top, .int .i64 least, .int .i64 part, .slice A2 n2 c2] 25))
  replace eW0 := Lib.hid eW0
  replace eg := Lib.hid eg
  clear hblk0 b00
  have B0 := Lib.hid (Below.refl W0.heap.size W0)
  go_enter Try.func13, Try.ntmps13
  go_wp2_with fail
  rw [eW0.out, eg.out]
  clear a0 a1 a2 a3 a4 a5 a6 a7 a8 a9 a10 eW0
  refine (HA.out W0 (BW.out _ B0.out)).mono ?_
  rintro e w1 ha
  obtain ⟨v, rfl, ho, bb⟩ := ha.out
  obtain ⟨A1', n1', c1', rfl, hv, q1, q2, q3, q4⟩ := ho
  have hn' : n1' = n := by rw [← en.out]; exact hv.1.symm
  subst hn'
  have B1 := Lib.hid (below_up B0.out bb)
  have hv1 := Lib.hid hv
  have own0 := Lib.hid (own_nil (fm := fQt) 37 w1 w1.heap.size)
  have B10 := Lib.hid (Below.refl w1.heap.size w1)
  have hV : Hid (∀ W, Below w1.heap.size w1 W → HV fQt W A1' n1' L) := Lib.hid (fun W b => hv.below b)
  clear ha hv bb q3 q4 B0 HA
  go_wp2_with fail
  go_loopw [9, 18] (fun u iv wr => ∃ k : Nat, iv = .int .i64 (k : Int) ∧ k ≤ n1' ∧ Hid (Own fQt 37 wr w1.heap.size u (G k)) ∧ Hid (Below w1.heap.size w1 wr)) (fun _ iv _ => n1' - (intOf iv).toNat)
  case atStart => exact ⟨0, rfl, by omega, by rw [G0.out]; exact own0, B10⟩
  case round =>
    clear own0 B10 hv1
    obtain ⟨k, rfl, hk, hO, hB⟩ := hrel
    by_cases hlt : k < n1'
    · have d1 : decide ((k : Int) < (n1' : Int)) = true := decide_eq_true (by omega)
      have d3 : (k : Int) < (n1' : Int) := by omega
      obtain ⟨x, hx⟩ := hex.out k hlt
      have hst := hnx.out k x hx
      have hxo := hokA.out x (List.mem_of_getElem? hx)
      obtain ⟨b, off, rfl, x0, x1, x2, x3, x4, x5⟩ := (hV.out _ hB.out).atQ hx
      have hc : Hid (∀ W, Below w.heap.size w W → Calls Try.prog 21 #[.agg #[.string (str code), .slice A1 n1 c1, .int .i64 tick, .int .i64 low, .int .i64 high, .int .i64 wide, .int .i64 rule, .int .i64 top, .int .i64 least, .int .i64 part, .slice A2 n2 c2], .int .i64 inst, .int .i64 x.p] W fun e w' => e = .returned (.int .i64 (pf x.p : Int)) ∧ Below W.heap.size W w') := Lib.hid (fun W bw => HP.out W x.p hxo.p bw)
      obtain ⟨pv, epv⟩ : ∃ z, pf x.p = z := ⟨_, rfl⟩
      rw [epv] at hc hst
      obtain ⟨xp, xn, xi1, xs1, xi2, xs2⟩ := x
      simp only at x0 x1 x2 x3 x4 x5 hc
      replace hx := Lib.hid hx
      replace hxo := Lib.hid hxo
      replace epv := Lib.hid epv
      replace hst := Lib.hid hst
      by_cases hpv : pv = 0
      · subst hpv
        replace hst : Hid (G (k + 1) = G k ++ [⟨xp, xn, xi1, xs1, xi2, xs2⟩]) := Lib.hid (by rw [hst.out, if_pos (by decide)])
        obtain ⟨gx, egx⟩ : ∃ g, wr.heap.size = g := ⟨_, rfl⟩
        obtain ⟨wA, eA⟩ : ∃ W, wr.alloc (.cells #[.int .i64 xp, .int .i64 xn, .int .i64 xi1, .int .i64 xs1, .int .i64 xi2, .int .i64 xs2] 37) = W := ⟨_, rfl⟩
        have hgx : Hid (wA.heap[gx]? = some (.cells #[.int .i64 xp, .int .i64 xn, .int .i64 xi1, .int .i64 xs1, .int .i64 xi2, .int .i64 xs2] 37 (0, 0))) := Lib.hid (by rw [← eA, ← egx]; exact heap_alloc_new wr _)
        have bA : Below wr.heap.size wr wA := by rw [← eA]; exact (Below.refl _ wr).alloc (Nat.le_refl _) _
        have sA : Hid (wA.heap.size = gx + 1) := Lib.hid (by rw [← eA, World.size_alloc, egx])
        obtain ⟨z0, -, -, -, -, -⟩ := row6 hgx.out
        have hOA := Lib.hid (hO.out.below bA)
        have BA := Lib.hid (below_up hB.out bA)
        have BAw := Lib.hid (below_up B1.out BA.out)
        obtain ⟨k0, k1, k2, k3, k4, k5, k6, k7, k8, k9, k10⟩ := row11 (KK.out _ BAw.out)
        replace eA := Lib.hid eA
        replace egx := Lib.hid egx
        clear bA hO hB
        go_upto_region 5 with (fail)
        rw [eA.out, egx.out]
        clear x0 x1 x2 x3 x4 x5 eA egx
        go_wp2_with fail
        refine (hc.out wA (BW.out _ BAw.out)).mono ?_
        rintro e w5 ⟨rfl, b5⟩
        have hO5 := Lib.hid (hOA.out.below b5)
        have B5 := Lib.hid (below_up BA.out b5)
        have hg5 := (b5.block gx (by have := sA.out; omega)).trans hgx.out
        obtain ⟨z0', z1, z2, z3, z4, z5⟩ := row6 hg5
        clear z0 k0 k1 k2 k3 k4 k5 k6 k7 k8 k9 k10 b5 hOA BA BAw hc hg5 hgx sA
        have h1 := Lib.hid (q_lit w5 xp xn xi1 xs1 xi2 xs2 37)
        have sz3 : w1.heap.size ≤ (w5.alloc (.cells #[.int .i64 xp, .int .i64 xn, .int .i64 xi1, .int .i64 xs1, .int .i64 xi2, .int .i64 xs2] 37)).heap.size := by have := B5.out.size; simp; omega
        have ba := Lib.hid (B5.out.alloc B5.out.size (.cells #[.int .i64 xp, .int .i64 xn, .int .i64 xi1, .int .i64 xs1, .int .i64 xi2, .int .i64 xs2] 37))
        have hgl := hfl.out k
        go_wp2_with (at_builtin; refine wpList_onto_g (fm := fQt) (T := 37) (by rfl) (.tmp 28) (.tmp 30) 40 (by rfl) w1.heap.size i0 (.agg #[.int .i64 0, .int .i64 0, .int .i64 0, .int .i64 0, .int .i64 0, .int .i64 0]) 48 Try.underlying40 hi0 hz0 hz1 hz2 rfl (by omega) u9 (G k) (by rfl) (hO5.out.below ((Below.refl _ _).alloc (Nat.le_refl _) _)) (some ⟨w5.heap.size, 0, none⟩) 1 1 [⟨xp, xn, xi1, xs1, xi2, xs2⟩] (by rfl) h1.out (fun e => by cases e) (by omega) sz3 ?_)
        intro v8 w8 r8 g8 o8
        have r8' : Hid (Own fQt 37 w8 w1.heap.size v8 (G (k + 1))) := Lib.hid (by rw [hst.out]; exact r8)
        have B8 := Lib.hid (ba.out.grown g8 sz3 (fun q hq => (hO5.out.lt q hq).1))
        clear r8 g8 o8 z0' z1 z2 z3 z4 z5 h1 ba hO5 B5
        go_wp2_with fail
        go_roundw
        case rel => exact ⟨k + 1, by go_num, by omega, r8', B8⟩
        case measure => simp [intOf]; omega
      · have dpv : ((pv : Int) == 0) = false := beq_eq_false_iff_ne.2 (by omega)
        have dpv2 : decide ((pv : Int) = 0) = false := decide_eq_false (by omega)
        have dpv3 : (pv == 0) = false := beq_eq_false_iff_ne.2 hpv
        replace hst : Hid (G (k + 1) = G k ++ []) := Lib.hid (by rw [hst.out, if_neg (by rw [decide_eq_false hpv]; decide)])
        obtain ⟨gx, egx⟩ : ∃ g, wr.heap.size = g := ⟨_, rfl⟩
        obtain ⟨wA, eA⟩ : ∃ W, wr.alloc (.cells #[.int .i64 xp, .int .i64 xn, .int .i64 xi1, .int .i64 xs1, .int .i64 xi2, .int .i64 xs2] 37) = W := ⟨_, rfl⟩
        have hgx : Hid (wA.heap[gx]? = some (.cells #[.int .i64 xp, .int .i64 xn, .int .i64 xi1, .int .i64 xs1, .int .i64 xi2, .int .i64 xs2] 37 (0, 0))) := Lib.hid (by rw [← eA, ← egx]; exact heap_alloc_new wr _)
        have bA : Below wr.heap.size wr wA := by rw [← eA]; exact (Below.refl _ wr).alloc (Nat.le_refl _) _
        have sA : Hid (wA.heap.size = gx + 1) := Lib.hid (by rw [← eA, World.size_alloc, egx])
        obtain ⟨z0, -, -, -, -, -⟩ := row6 hgx.out
        have hOA := Lib.hid (hO.out.below bA)
        have BA := Lib.hid (below_up hB.out bA)
        have BAw := Lib.hid (below_up B1.out BA.out)
        obtain ⟨k0, k1, k2, k3, k4, k5, k6, k7, k8, k9, k10⟩ := row11 (KK.out _ BAw.out)
        replace eA := Lib.hid eA
        replace egx := Lib.hid egx
        clear bA hO hB
        go_upto_region 5 with (fail)
        rw [eA.out, egx.out]
        clear x0 x1 x2 x3 x4 x5 eA egx
        go_wp2_with fail
        refine (hc.out wA (BW.out _ BAw.out)).mono ?_
        rintro e w5 ⟨rfl, b5⟩
        have hO5 := Lib.hid (hOA.out.below b5)
        have B5 := Lib.hid (below_up BA.out b5)
        have hg5 := (b5.block gx (by have := sA.out; omega)).trans hgx.out
        obtain ⟨z0', z1, z2, z3, z4, z5⟩ := row6 hg5
        clear z0 k0 k1 k2 k3 k4 k5 k6 k7 k8 k9 k10 b5 hOA BA BAw hc hg5 hgx sA
        have hO6 : Hid (Own fQt 37 w5 w1.heap.size u9 (G (k + 1))) := Lib.hid (by rw [hst.out, List.append_nil]; exact hO5.out)
        clear hO5 z0' z1 z2 z3 z4 z5
        go_wp2_with fail
        go_roundw
        case rel => exact ⟨k + 1, by go_num, by omega, hO6, B5⟩
        case measure => simp [intOf]; omega
    · obtain rfl : n1' = k := by omega
      have d1 : decide ((n1' : Int) < (n1' : Int)) = false := by simp
      have fin : Hid (OwnQ w.heap.size w RQ (.returned u9) wr) := Lib.hid (by
        have h9 := hO.out
        rw [Gn.out] at h9
        have s1 := (BW.out _ B1.out).size
        exact ⟨u9, rfl, h9.base s1, BW.out _ (below_up B1.out hB.out)⟩)
      clear hO hB hk hlt
      go_wp2_with fail
      go_ret
      exact fin.out
theorem PQuotes_any (p : PD) (AT : Option Addr) (nT cT : Nat) (T : List Tp) (inst side : Int) (w : World) (hp : Hid (p.Ok w)) (hT : Hid (HV fTp w AT nT T)) (hOT : Hid (OkT T)) (hi : I64 inst) (hs : I64 side) (hn : nT ≤ 9223372036854775807) :
    Calls Try.prog 13 #[p.val, .slice AT nT cT, .int .i64 inst, .int .i64 side] w (AnsQ w.heap.size w (quotesQ p T inst side)) :=
  (PQuotes_own p AT nT cT T inst side w hp hT hOT hi hs hn).mono fun e w' ⟨v, e1, h9, b⟩ => by
    obtain ⟨A9, c9, e9, h9, l9, m9, n9, at9⟩ := h9.slice
    rw [e1, e9]
    exact ⟨A9, _, c9, rfl, h9, l9, m9, n9, (fun ad e => (at9 ad e).2.2.1), b⟩
end Go.Proofs.Ytdeofifidjbolaa

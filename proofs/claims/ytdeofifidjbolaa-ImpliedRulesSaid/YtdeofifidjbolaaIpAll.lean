/-
  The program's implied quotes: All.
-/
import Derived.Test.YtdeofifidjbolaaIpPairs
import Derived.Test.YtdeofifidjbolaaIpRight
namespace Go.Proofs.Ytdeofifidjbolaa
open Go.RowKit
set_option linter.unusedVariables false
set_option linter.unusedSimpArgs false

theorem info_pquote : (Try.prog.info? 37).map (fun i => (i.zero, i.size, i.bytes)) = some (some (.agg #[.int .i64 0, .int .i64 0, .int .i64 0, .int .i64 0, .int .i64 0, .int .i64 0]), 6, 48) := by kernel_rfl
theorem lg_at {L : List Lg} {k : Nat} (h : k < L.length) : ∃ x, L[k]? = some x := ⟨_, List.getElem?_eq_getElem h⟩
set_option maxRecDepth 100000 in
set_option maxHeartbeats 8000000 in
theorem PAll14_any (p : PD) (AT : Option Addr) (nT cT : Nat) (T : List Tp) (inst side : Int) (w : World) (hp : Hid (p.Ok w)) (hT : Hid (HV fTp w AT nT T)) (hOT : Hid (OkT T)) (hi : I64 inst) (hs : I64 side) (hn : nT ≤ 9223372036854775807) :
    Calls Try.prog 14 #[p.val, .slice AT nT cT, .int .i64 inst, .int .i64 side] w (AnsQ w.heap.size w (allQ p T inst side)) := by
  obtain ⟨i0, hi0, hz0, hz1, hz2⟩ := info_parts info_pquote
  have hlT := hT.out.1
  have HR : Hid (∀ W, Below w.heap.size w W → Calls Try.prog 32 #[p.val, .slice AT nT cT, .int .i64 inst, .int .i64 side] W fun e w' => e = .returned (.bool (askB p T.length inst side)) ∧ Below W.heap.size W w') := Lib.hid (fun W b => by rw [hlT]; exact PRight_any p AT nT cT inst side W (Lib.hid (hp.out.below b)) hi hs hn)
  by_cases hask : askB p T.length inst side = true
  · rw [all_flat hask]
    rw [hask] at HR
    obtain ⟨hz, hnT, hi0', hi1, hsd⟩ := (askB_iff _ _ _ _).1 hask
    obtain ⟨it, rfl⟩ : ∃ it : Nat, inst = (it : Int) := ⟨inst.toNat, by omega⟩
    obtain ⟨ks, rfl, hk⟩ : ∃ ks : Nat, side = (ks : Int) + 1 ∧ ks < 2 := ⟨(side - 1).toNat, by omega, by omega⟩
    have hin : it < cntL p := by omega
    have hcl := cntL_le p
    have HP : Hid (∀ W, Below w.heap.size w W → Calls Try.prog 33 #[p.val, .int .i64 (it : Int), .int .i64 ((ks : Int) + 1)] W (AnsG W (pairsG p (it : Int) ((ks : Int) + 1)))) := Lib.hid (fun W b => PPairs_any p it ks W (Lib.hid (hp.out.below b)) hin hk)
    have HQ : Hid (∀ (W : World) (a ka b kb : Nat), Below w.heap.size w W → a < nT → ka < 2 → b < nT → kb < 2 → Calls Try.prog 34 #[.slice AT nT cT, .agg #[.int .i64 (a : Int), .int .i64 ((ka : Int) + 1), .int .i64 (b : Int), .int .i64 ((kb : Int) + 1)], .int .i64 ((ks : Int) + 1)] W fun e w' => e = .returned (.tuple #[((legsO T (a : Int) ((ka : Int) + 1) (b : Int) ((kb : Int) + 1) ((ks : Int) + 1)).getD ⟨0, 0, 0, 0, 0, 0⟩).val, .bool (legsO T (a : Int) ((ka : Int) + 1) (b : Int) ((kb : Int) + 1) ((ks : Int) + 1)).isSome]) ∧ Below W.heap.size W w') := Lib.hid (fun W a ka b kb bw h1 h2 h3 h4 => PQuote_any AT nT cT T a ka b kb ((ks : Int) + 1) W (Lib.hid (hT.out.below bw)) hOT h1 h2 h3 h4 (by omega))
    have hIn : Hid (∀ x ∈ pairsG p (it : Int) ((ks : Int) + 1), LgIn nT x) := Lib.hid (by rw [← hlT, hnT]; exact pairsG_in hin hk)
    have hLl := pairsG_len hin ((ks : Int) + 1)
    obtain ⟨L, eL⟩ : ∃ L, pairsG p (it : Int) ((ks : Int) + 1) = L := ⟨_, rfl⟩
    rw [eL] at HP hIn hLl ⊢
    clear eL
    obtain ⟨LO, eLO⟩ : ∃ f : Int → Int → Int → Int → Option Qt, (fun a sa b sb => legsO T a sa b sb ((ks : Int) + 1)) = f := ⟨_, rfl⟩
    replace HQ : Hid (∀ (W : World) (a ka b kb : Nat), Below w.heap.size w W → a < nT → ka < 2 → b < nT → kb < 2 → Calls Try.prog 34 #[.slice AT nT cT, .agg #[.int .i64 (a : Int), .int .i64 ((ka : Int) + 1), .int .i64 (b : Int), .int .i64 ((kb : Int) + 1)], .int .i64 ((ks : Int) + 1)] W fun e w' => e = .returned (.tuple #[((LO (a : Int) ((ka : Int) + 1) (b : Int) ((kb : Int) + 1)).getD ⟨0, 0, 0, 0, 0, 0⟩).val, .bool (LO (a : Int) ((ka : Int) + 1) (b : Int) ((kb : Int) + 1)).isSome]) ∧ Below W.heap.size W w') := Lib.hid (by rw [← eLO]; exact HQ.out)
    have hnx : Hid (∀ k x, L[k]? = some x → (L.take (k + 1)).flatMap (quoteL T ((ks : Int) + 1)) = (L.take k).flatMap (quoteL T ((ks : Int) + 1)) ++ (LO x.i1 x.s1 x.i2 x.s2).toList) := Lib.hid (fun k x h => by rw [← eLO]; exact flat_next _ h)
    have hfl : Hid (∀ k, ((L.take k).flatMap (quoteL T ((ks : Int) + 1))).length ≤ 100) := Lib.hid (fun k => Nat.le_trans (flat_len1 _) (by rw [List.length_take]; omega))
    obtain ⟨G, eG⟩ : ∃ G : Nat → List Qt, (fun k => (L.take k).flatMap (quoteL T ((ks : Int) + 1))) = G := ⟨_, rfl⟩
    have G0 : Hid (G 0 = []) := Lib.hid (by rw [← eG]; rfl)
    obtain ⟨n, en⟩ : ∃ n, L.length = n := ⟨_, rfl⟩
    have Gn : Hid (G n = L.flatMap (quoteL T ((ks : Int) + 1))) := Lib.hid (by rw [← eG, ← en]; show (L.take L.length).flatMap _ = _; rw [List.take_length])
    replace hnx : Hid (∀ k x, L[k]? = some x → G (k + 1) = G k ++ (LO x.i1 x.s1 x.i2 x.s2).toList) := Lib.hid (fun k x h => by rw [← eG]; exact hnx.out k x h)
    have hGl : Hid (∀ k, (G k).length ≤ 100) := Lib.hid (fun k => by rw [← eG]; exact hfl.out k)
    have hex : Hid (∀ k, k < n → ∃ x, L[k]? = some x) := Lib.hid (fun k hk => lg_at (by omega))
    obtain ⟨RQ, hRQ⟩ : ∃ R, L.flatMap (quoteL T ((ks : Int) + 1)) = R := ⟨_, rfl⟩
    rw [hRQ] at Gn ⊢
    rw [en] at hLl
    clear eG hRQ hfl eLO hask hT hOT hp hz hnT hi0' hi1 hsd hi hs hn hin
    replace en := Lib.hid en
    replace hlT := Lib.hid hlT
    obtain ⟨code, A1, n1, c1, tick, low, high, wide, rule, top, least, part, A2, n2, c2, Q, R⟩ := p
    replace HR : Hid (∀ W, Below w.heap.size w W → Calls Try.prog 32 #[.agg #[.string (str code), .slice A1 n1 c1, .int .i64 tick, .int .i64 low, .int .i64 high, .int .i64 wide, .int .i64 rule, .int .i64 top, .int .i64 least, .int .i64 part, .slice A2 n2 c2], .slice AT nT cT, .int .i64 (it : Int), .int .i64 ((ks : Int) + 1)] W fun e w' => e = .returned (.bool true) ∧ Below W.heap.size W w') := HR
    replace HP : Hid (∀ W, Below w.heap.size w W → Calls Try.prog 33 #[.agg #[.string (str code), .slice A1 n1 c1, .int .i64 tick, .int .i64 low, .int .i64 high, .int .i64 wide, .int .i64 rule, .int .i64 top, .int .i64 least, .int .i64 part, .slice A2 n2 c2], .int .i64 (it : Int), .int .i64 ((ks : Int) + 1)] W (AnsG W L)) := HP
    show Calls Try.prog 14 #[.agg #[.string (str code), .slice A1 n1 c1, .int .i64 tick, .int .i64 low, .int .i64 high, .int .i64 wide, .int .i64 rule, .int .i64 top, .int .i64 least, .int .i64 part, .slice A2 n2 c2], .slice AT nT cT, .int .i64 (it : Int), .int .i64 ((ks : Int) + 1)] w _
    obtain ⟨W0, eW0⟩ : ∃ W0, w.alloc (.cells #[.string (str code), .slice A1 n1 c1, .int .i64 tick, .int .i64 low, .int .i64 high, .int .i64 wide, .int .i64 rule, .int .i64 top, .int .i64 least, .int .i64 part, .slice A2 n2 c2] 25) = W0 := ⟨_, rfl⟩
    obtain ⟨g, eg⟩ : ∃ g, w.heap.size = g := ⟨_, rfl⟩
    have hblk0 : W0.heap[g]? = some (.cells #[.string (str code), .slice A1 n1 c1, .int .i64 tick, .int .i64 low, .int .i64 high, .int .i64 wide, .int .i64 rule, .int .i64 top, .int .i64 least, .int .i64 part, .slice A2 n2 c2] 25 (0, 0)) := by rw [← eW0, ← eg]; exact heap_alloc_new w _
    have b00 : Below w.heap.size w W0 := by rw [← eW0]; exact (Below.refl _ w).alloc (Nat.le_refl _) _
    have KK : Hid (∀ W, Below W0.heap.size W0 W → W.heap[g]? = some (.cells #[.string (str code), .slice A1 n1 c1, .int .i64 tick, .int .i64 low, .int .i64 high, .int .i64 wide, .int .i64 rule, .int .i64 top, .int .i64 least, .int .i64 part, .slice A2 n2 c2] 25 (0, 0))) := Lib.hid (fun W b => (b.block g (Array.getElem?_eq_some_iff.1 hblk0).1).trans hblk0)
    have BW : Hid (∀ W, Below W0.heap.size W0 W → Below w.heap.size w W) := Lib.hid (fun W b => b00.trans (b.mono b00.size))
    obtain ⟨a0, a1, a2, a3, a4, a5, a6, a7, a8, a9, a10⟩ := row11 (heap_alloc_new w (.cells #[.string (str code), .slice A1 n1 c1, .int .i64 tick, .int .i64 low, .int .i64 high, .int .i64 wide, .int .i64 rule, .int .i64 top, .int .i64 least, .int .i64 part, .slice A2 n2 c2] 25))
    replace eW0 := Lib.hid eW0
    replace eg := Lib.hid eg
    clear hblk0 b00
    have B0 := Lib.hid (Below.refl W0.heap.size W0)
    go_enter Try.func14, Try.ntmps14
    go_wp2_with fail
    rw [eW0.out, eg.out]
    clear a0 a1 a2 a3 a4 a5 a6 a7 a8 a9 a10 eW0
    refine (HR.out W0 (BW.out _ B0.out)).mono ?_
    rintro e w1 ⟨rfl, bb⟩
    have B1 := Lib.hid (below_up B0.out bb)
    clear bb B0 HR
    obtain ⟨k0, k1, k2, k3, k4, k5, k6, k7, k8, k9, k10⟩ := row11 (KK.out _ B1.out)
    go_wp2_with fail
    refine (HP.out w1 (BW.out _ B1.out)).mono ?_
    rintro e w2 ⟨A2', n2', c2', rfl, hv, bb⟩
    have hn' : n2' = n := by rw [← en.out]; exact hv.1.symm
    subst hn'
    have B2 := Lib.hid (below_up B1.out bb)
    have own0 : Hid (Own fQt 37 w2 w2.heap.size (.slice none 0 0) (G 0)) := Lib.hid (by rw [G0.out]; exact own_nil (fm := fQt) 37 w2 w2.heap.size)
    have B20 := Lib.hid (Below.refl w2.heap.size w2)
    have hV : Hid (∀ W, Below w2.heap.size w2 W → HV fLg W A2' n2' L) := Lib.hid (fun W b => hv.below b)
    clear hv bb B1 HP k0 k1 k2 k3 k4 k5 k6 k7 k8 k9 k10
    go_wp2_with fail
    go_loopw [9, 25] (fun u iv wr => ∃ k : Nat, iv = .int .i64 (k : Int) ∧ k ≤ n2' ∧ Hid (Own fQt 37 wr w2.heap.size u (G k)) ∧ Hid (Below w2.heap.size w2 wr)) (fun _ iv _ => n2' - (intOf iv).toNat)
    case atStart => exact ⟨0, rfl, by omega, own0, B20⟩
    case round =>
      clear own0 B20
      obtain ⟨k, rfl, hk, hO, hB⟩ := hrel
      by_cases hlt : k < n2'
      · have d1 : decide ((k : Int) < (n2' : Int)) = true := decide_eq_true (by omega)
        have d3 : (k : Int) < (n2' : Int) := by omega
        obtain ⟨x, hx⟩ := hex.out k hlt
        have hst := hnx.out k x hx
        obtain ⟨a, ka, b, kb, rfl, ha, hka, hb, hkb⟩ := hIn.out x (List.mem_of_getElem? hx)
        obtain ⟨bk, off, rfl, y0, y1, y2, y3⟩ := (hV.out _ hB.out).atG hx
        simp only at y0 y1 y2 y3 hst
        replace hx := Lib.hid hx
        replace hst := Lib.hid hst
        cases hJ : LO (a : Int) ((ka : Int) + 1) (b : Int) ((kb : Int) + 1) with
        | none =>
          replace hst : Hid (G (k + 1) = G k) := Lib.hid (by rw [hst.out, hJ, Option.toList_none, List.append_nil])
          have hq : Hid (∀ W, Below w.heap.size w W → Calls Try.prog 34 #[.slice AT nT cT, .agg #[.int .i64 (a : Int), .int .i64 ((ka : Int) + 1), .int .i64 (b : Int), .int .i64 ((kb : Int) + 1)], .int .i64 ((ks : Int) + 1)] W fun e w' => e = .returned (.tuple #[.agg #[.int .i64 0, .int .i64 0, .int .i64 0, .int .i64 0, .int .i64 0, .int .i64 0], .bool false]) ∧ Below W.heap.size W w') := Lib.hid (fun W bw => by have := HQ.out W a ka b kb bw ha hka hb hkb; rw [hJ] at this; exact this)
          replace hJ := Lib.hid hJ
          clear ha hka hb hkb
          obtain ⟨gx, egx⟩ : ∃ g, wr.heap.size = g := ⟨_, rfl⟩
          obtain ⟨wA, eA⟩ : ∃ W, wr.alloc (.cells #[.int .i64 (a : Int), .int .i64 ((ka : Int) + 1), .int .i64 (b : Int), .int .i64 ((kb : Int) + 1)] 35) = W := ⟨_, rfl⟩
          have hgx : wA.heap[gx]? = some (.cells #[.int .i64 (a : Int), .int .i64 ((ka : Int) + 1), .int .i64 (b : Int), .int .i64 ((kb : Int) + 1)] 35 (0, 0)) := by rw [← eA, ← egx]; exact heap_alloc_new wr _
          have bA : Below wr.heap.size wr wA := by rw [← eA]; exact (Below.refl _ wr).alloc (Nat.le_refl _) _
          obtain ⟨l0, l1, l2, l3⟩ := quad_cells hgx
          have hOA := Lib.hid (hO.out.below bA)
          have BA := Lib.hid (below_up hB.out bA)
          replace eA := Lib.hid eA
          replace egx := Lib.hid egx
          clear hgx bA hO hB
          go_upto_region 7 with (fail)
          rw [eA.out, egx.out]
          clear y0 y1 y2 y3 eA egx
          go_wp2_with fail
          refine (hq.out wA (BW.out _ (below_up B2.out BA.out))).mono ?_
          rintro e w5 ⟨rfl, b5⟩
          have hO5 := Lib.hid (hOA.out.below b5)
          have B5 := Lib.hid (below_up BA.out b5)
          clear l0 l1 l2 l3 b5 hOA BA hq
          have hO6 : Hid (Own fQt 37 (w5.alloc (.cells #[.int .i64 0, .int .i64 0, .int .i64 0, .int .i64 0, .int .i64 0, .int .i64 0] 37)) w2.heap.size u9 (G (k + 1))) := Lib.hid (by rw [hst.out]; exact hO5.out.below ((Below.refl _ _).alloc (Nat.le_refl _) _))
          have B6 := Lib.hid (B5.out.alloc B5.out.size (.cells #[.int .i64 0, .int .i64 0, .int .i64 0, .int .i64 0, .int .i64 0, .int .i64 0] 37))
          clear hO5 B5 hst
          go_wp2_with fail
          go_roundw
          case rel => exact ⟨k + 1, by go_num, by omega, hO6, B6⟩
          case measure => simp [intOf]; omega
        | some q =>
          obtain ⟨qp, qn, q1, q2, q3, q4⟩ := q
          replace hst : Hid (G (k + 1) = G k ++ [⟨qp, qn, q1, q2, q3, q4⟩]) := Lib.hid (by rw [hst.out, hJ]; rfl)
          have hq : Hid (∀ W, Below w.heap.size w W → Calls Try.prog 34 #[.slice AT nT cT, .agg #[.int .i64 (a : Int), .int .i64 ((ka : Int) + 1), .int .i64 (b : Int), .int .i64 ((kb : Int) + 1)], .int .i64 ((ks : Int) + 1)] W fun e w' => e = .returned (.tuple #[.agg #[.int .i64 qp, .int .i64 qn, .int .i64 q1, .int .i64 q2, .int .i64 q3, .int .i64 q4], .bool true]) ∧ Below W.heap.size W w') := Lib.hid (fun W bw => by have := HQ.out W a ka b kb bw ha hka hb hkb; rw [hJ] at this; exact this)
          replace hJ := Lib.hid hJ
          clear ha hka hb hkb
          obtain ⟨gx, egx⟩ : ∃ g, wr.heap.size = g := ⟨_, rfl⟩
          obtain ⟨wA, eA⟩ : ∃ W, wr.alloc (.cells #[.int .i64 (a : Int), .int .i64 ((ka : Int) + 1), .int .i64 (b : Int), .int .i64 ((kb : Int) + 1)] 35) = W := ⟨_, rfl⟩
          have hgx : wA.heap[gx]? = some (.cells #[.int .i64 (a : Int), .int .i64 ((ka : Int) + 1), .int .i64 (b : Int), .int .i64 ((kb : Int) + 1)] 35 (0, 0)) := by rw [← eA, ← egx]; exact heap_alloc_new wr _
          have bA : Below wr.heap.size wr wA := by rw [← eA]; exact (Below.refl _ wr).alloc (Nat.le_refl _) _
          obtain ⟨l0, l1, l2, l3⟩ := quad_cells hgx
          have hOA := Lib.hid (hO.out.below bA)
          have BA := Lib.hid (below_up hB.out bA)
          replace eA := Lib.hid eA
          replace egx := Lib.hid egx
          clear hgx bA hO hB
          go_upto_region 7 with (fail)
          rw [eA.out, egx.out]
          clear y0 y1 y2 y3 eA egx
          go_wp2_with fail
          refine (hq.out wA (BW.out _ (below_up B2.out BA.out))).mono ?_
          rintro e w5 ⟨rfl, b5⟩
          have hO5 := Lib.hid (hOA.out.below b5)
          have B5 := Lib.hid (below_up BA.out b5)
          clear l0 l1 l2 l3 b5 hOA BA hq
          obtain ⟨gy, egy⟩ : ∃ g, w5.heap.size = g := ⟨_, rfl⟩
          obtain ⟨w6, e6⟩ : ∃ W, w5.alloc (.cells #[.int .i64 qp, .int .i64 qn, .int .i64 q1, .int .i64 q2, .int .i64 q3, .int .i64 q4] 37) = W := ⟨_, rfl⟩
          have hgy : w6.heap[gy]? = some (.cells #[.int .i64 qp, .int .i64 qn, .int .i64 q1, .int .i64 q2, .int .i64 q3, .int .i64 q4] 37 (0, 0)) := by rw [← e6, ← egy]; exact heap_alloc_new w5 _
          have b56 : Below w5.heap.size w5 w6 := by rw [← e6]; exact (Below.refl _ w5).alloc (Nat.le_refl _) _
          obtain ⟨z0, z1, z2, z3, z4, z5⟩ := row6 hgy
          have hO6 := Lib.hid (hO5.out.below b56)
          have B6 := Lib.hid (below_up B5.out b56)
          have h1 := Lib.hid (q_lit w6 qp qn q1 q2 q3 q4 37)
          have sz3 : w2.heap.size ≤ (w6.alloc (.cells #[.int .i64 qp, .int .i64 qn, .int .i64 q1, .int .i64 q2, .int .i64 q3, .int .i64 q4] 37)).heap.size := by have := B6.out.size; simp; omega
          have ba := Lib.hid (B6.out.alloc B6.out.size (.cells #[.int .i64 qp, .int .i64 qn, .int .i64 q1, .int .i64 q2, .int .i64 q3, .int .i64 q4] 37))
          have hgl := hGl.out k
          replace e6 := Lib.hid e6
          replace egy := Lib.hid egy
          clear hgy b56 hO5 B5
          go_upto_region 8 with (fail)
          rw [e6.out, egy.out]
          clear e6 egy
          go_wp2_with (at_builtin; refine wpList_onto_g (fm := fQt) (T := 37) (by rfl) (.tmp 37) (.tmp 39) 40 (by rfl) w2.heap.size i0 (.agg #[.int .i64 0, .int .i64 0, .int .i64 0, .int .i64 0, .int .i64 0, .int .i64 0]) 48 Try.underlying40 hi0 hz0 hz1 hz2 rfl (by omega) u9 (G k) (by rfl) (hO6.out.below ((Below.refl _ _).alloc (Nat.le_refl _) _)) (some ⟨w6.heap.size, 0, none⟩) 1 1 [⟨qp, qn, q1, q2, q3, q4⟩] (by rfl) h1.out (fun e => by cases e) (by omega) sz3 ?_)
          intro v8 w8 r8 g8 o8
          have r8' : Hid (Own fQt 37 w8 w2.heap.size v8 (G (k + 1))) := Lib.hid (by rw [hst.out]; exact r8)
          have B8 := Lib.hid (ba.out.grown g8 sz3 (fun q hq => (hO6.out.lt q hq).1))
          clear r8 g8 o8 z0 z1 z2 z3 z4 z5 h1 ba hO6 B6 hst
          go_wp2_with fail
          go_roundw
          case rel => exact ⟨k + 1, by go_num, by omega, r8', B8⟩
          case measure => simp [intOf]; omega
      · obtain rfl : n2' = k := by omega
        have d1 : decide ((n2' : Int) < (n2' : Int)) = false := by simp
        have fin : Hid (AnsQ w.heap.size w RQ (.returned u9) wr) := Lib.hid (by
          have h9 := hO.out
          rw [Gn.out] at h9
          obtain ⟨A9, c9, e9, h9, l9, m9, n9, at9⟩ := h9.slice
          rw [e9]
          have s1 := (BW.out _ B2.out).size
          exact ⟨A9, _, c9, rfl, h9, l9, m9, n9, (fun ad e => by have := (at9 ad e).2.2.1; omega), BW.out _ (below_up B2.out hB.out)⟩)
        clear hO hB hk hlt
        go_wp2_with fail
        go_ret
        exact fin.out
  · have hno : allQ p T inst side = [] := by unfold allQ; rw [if_neg hask]
    rw [hno]
    replace hask : askB p T.length inst side = false := by
      cases hb : askB p T.length inst side
      · rfl
      · exact absurd hb hask
    rw [hask] at HR
    clear hask hno hp hT hOT
    obtain ⟨code, A1, n1, c1, tick, low, high, wide, rule, top, least, part, A2, n2, c2, Q, R⟩ := p
    replace HR : Hid (∀ W, Below w.heap.size w W → Calls Try.prog 32 #[.agg #[.string (str code), .slice A1 n1 c1, .int .i64 tick, .int .i64 low, .int .i64 high, .int .i64 wide, .int .i64 rule, .int .i64 top, .int .i64 least, .int .i64 part, .slice A2 n2 c2], .slice AT nT cT, .int .i64 inst, .int .i64 side] W fun e w' => e = .returned (.bool false) ∧ Below W.heap.size W w') := HR
    show Calls Try.prog 14 #[.agg #[.string (str code), .slice A1 n1 c1, .int .i64 tick, .int .i64 low, .int .i64 high, .int .i64 wide, .int .i64 rule, .int .i64 top, .int .i64 least, .int .i64 part, .slice A2 n2 c2], .slice AT nT cT, .int .i64 inst, .int .i64 side] w _
    obtain ⟨W0, eW0⟩ : ∃ W0, w.alloc (.cells #[.string (str code), .slice A1 n1 c1, .int .i64 tick, .int .i64 low, .int .i64 high, .int .i64 wide, .int .i64 rule, .int .i64 top, .int .i64 least, .int .i64 part, .slice A2 n2 c2] 25) = W0 := ⟨_, rfl⟩
    obtain ⟨g, eg⟩ : ∃ g, w.heap.size = g := ⟨_, rfl⟩
    have hblk0 : W0.heap[g]? = some (.cells #[.string (str code), .slice A1 n1 c1, .int .i64 tick, .int .i64 low, .int .i64 high, .int .i64 wide, .int .i64 rule, .int .i64 top, .int .i64 least, .int .i64 part, .slice A2 n2 c2] 25 (0, 0)) := by rw [← eW0, ← eg]; exact heap_alloc_new w _
    have b00 : Below w.heap.size w W0 := by rw [← eW0]; exact (Below.refl _ w).alloc (Nat.le_refl _) _
    have KK : Hid (∀ W, Below W0.heap.size W0 W → W.heap[g]? = some (.cells #[.string (str code), .slice A1 n1 c1, .int .i64 tick, .int .i64 low, .int .i64 high, .int .i64 wide, .int .i64 rule, .int .i64 top, .int .i64 least, .int .i64 part, .slice A2 n2 c2] 25 (0, 0))) := Lib.hid (fun W b => (b.block g (Array.getElem?_eq_some_iff.1 hblk0).1).trans hblk0)
    have BW : Hid (∀ W, Below W0.heap.size W0 W → Below w.heap.size w W) := Lib.hid (fun W b => b00.trans (b.mono b00.size))
    obtain ⟨a0, a1, a2, a3, a4, a5, a6, a7, a8, a9, a10⟩ := row11 (heap_alloc_new w (.cells #[.string (str code), .slice A1 n1 c1, .int .i64 tick, .int .i64 low, .int .i64 high, .int .i64 wide, .int .i64 rule, .int .i64 top, .int .i64 least, .int .i64 part, .slice A2 n2 c2] 25))
    replace eW0 := Lib.hid eW0
    replace eg := Lib.hid eg
    clear hblk0 b00
    have B0 := Lib.hid (Below.refl W0.heap.size W0)
    go_enter Try.func14, Try.ntmps14
    go_wp2_with fail
    rw [eW0.out, eg.out]
    clear a0 a1 a2 a3 a4 a5 a6 a7 a8 a9 a10 eW0
    refine (HR.out W0 (BW.out _ B0.out)).mono ?_
    rintro e w1 ⟨rfl, bb⟩
    have B1 := Lib.hid (below_up B0.out bb)
    clear bb B0 HR
    go_wp2_with fail
    go_ret
    exact ⟨none, 0, 0, rfl, hv_nil _ _, Nat.le_refl _, by omega, fun _ => rfl, (fun _ e => by cases e), BW.out _ B1.out⟩
end Go.Proofs.Ytdeofifidjbolaa

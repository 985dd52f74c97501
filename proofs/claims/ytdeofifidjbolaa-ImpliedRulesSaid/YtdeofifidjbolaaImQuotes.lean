/-
  The document's implied quotes whose prices may be: Quotes.
-/
import Derived.Test.YtdeofifidjbolaaImAll
import Derived.Test.YtdeofifidjbolaaGbRef
namespace Go.Proofs.Ytdeofifidjbolaa
open Go.RowKit
set_option linter.unusedVariables false
set_option linter.unusedSimpArgs false

theorem allQ_len {p : PD} {T : List Tp} {inst side : Int} : (allQ p T inst side).length ≤ 100 := by
  unfold allQ
  split
  · next h =>
    obtain ⟨hz, -⟩ := (askB_iff _ _ _ _).1 h
    have h2 := chk_zero hz
    split
    · exact Nat.le_trans (joinQ_len _ _ _ _ _ _) (by omega)
    · rw [List.length_append]
      have a := laterQ_len p T inst side (p.n1 - (inst.toNat + 1)) (inst + 1)
      have hb : (earlierQ p T inst side inst.toNat 0).length ≤ inst.toNat := earlierQ_len _ _ _ _ _ _
      obtain ⟨_, hn, i0, i1, _⟩ := (askB_iff _ _ _ _).1 h
      have hc := cntL_le p
      omega
  · exact Nat.zero_le _
theorem laterQ_ok {p : PD} {T : List Tp} (h : OkT T) (hz : chk p = 0) {inst side : Int} (hs : I64 side) : ∀ (d : Nat) (m : Int), -1000 ≤ m → m + (d : Int) ≤ 1000 → OkQ (laterQ p T inst side d m) := by
  intro d
  induction d with
  | zero => intro m _ _ y hy; cases hy
  | succ d ih =>
    intro m h0 h1 y hy
    rw [laterQ] at hy
    rcases List.mem_append.1 hy with hy | hy
    · obtain ⟨s, e, hs2⟩ := spreadI_range hz inst m
      have := cntL_le p
      exact joinQ_ok h 1 (by rw [e]; exact ⟨by omega, by omega⟩) hs ⟨by omega, by omega⟩ hs y hy
    · exact ih (m + 1) (by omega) (by omega) y hy
theorem earlierQ_ok {p : PD} {T : List Tp} (h : OkT T) (hz : chk p = 0) {inst side : Int} (hs : 1 ≤ side) (hs2 : side ≤ 2) : ∀ (d : Nat) (m : Int), -1000 ≤ m → m + (d : Int) ≤ 1000 → OkQ (earlierQ p T inst side d m) := by
  intro d
  induction d with
  | zero => intro m _ _ y hy; cases hy
  | succ d ih =>
    intro m h0 h1 y hy
    rw [earlierQ] at hy
    rcases List.mem_append.1 hy with hy | hy
    · obtain ⟨s, e, hs3⟩ := spreadI_range hz m inst
      have := cntL_le p
      exact joinQ_ok h 0 (by rw [e]; exact ⟨by omega, by omega⟩) ⟨by omega, by omega⟩ ⟨by omega, by omega⟩ ⟨by omega, by omega⟩ y hy
    · exact ih (m + 1) (by omega) (by omega) y hy
theorem allQ_ok {p : PD} {T : List Tp} (h : OkT T) (inst side : Int) : OkQ (allQ p T inst side) := by
  unfold allQ
  split
  · next hq =>
    obtain ⟨hz, hn, i0, i1, hs⟩ := (askB_iff _ _ _ _).1 hq
    have hc := cntL_le p
    obtain ⟨-, i, j, hl, hi, hj⟩ := legs_range (p := p) i0 (by omega)
    have h2 := chk_zero hz
    split
    · rw [hl]
      exact joinQ_ok h (-1) ⟨by show -9223372036854775808 ≤ (i : Int); omega, by show (i : Int) ≤ _; omega⟩ ⟨by omega, by omega⟩ ⟨by show -9223372036854775808 ≤ (j : Int); omega, by show (j : Int) ≤ _; omega⟩ ⟨by omega, by omega⟩
    · intro y hy
      rcases List.mem_append.1 hy with hy | hy
      · exact laterQ_ok h hz ⟨by omega, by omega⟩ _ _ (by omega) (by omega) y hy
      · exact earlierQ_ok h hz (by omega) (by omega) _ _ (by omega) (by omega) y hy
  · intro y hy; cases hy
theorem filter_next {α : Type} {L : List α} {k : Nat} {x : α} (f : α → Bool) (h : L[k]? = some x) : (L.take (k + 1)).filter f = (L.take k).filter f ++ (if f x = true then [x] else []) := by
  rw [List.take_add_one, h, List.filter_append]
  simp only [Option.toList_some]
  congr 1
  by_cases c : f x = true
  · rw [if_pos c]; simp [c]
  · rw [if_neg c]; simp [c]
theorem qt_at {L : List Qt} {k : Nat} (h : k < L.length) : ∃ x, L[k]? = some x := ⟨_, List.getElem?_eq_getElem h⟩
set_option maxRecDepth 100000 in
set_option maxHeartbeats 8000000 in
theorem RQuotes_any (p : PD) (AT : Option Addr) (nT cT : Nat) (T : List Tp) (inst side : Int) (w : World) (hp : Hid (p.Ok w)) (hT : Hid (HV fTp w AT nT T)) (hOT : Hid (OkT T)) (hi : I64 inst) (hs : I64 side) (hn : nT ≤ 9223372036854775807) :
    Calls Try.prog 26 #[p.val, .slice AT nT cT, .int .i64 inst, .int .i64 side] w (AnsQ w.heap.size w (quotesQ p T inst side)) := by
  obtain ⟨i0, hi0, hz0, hz1, hz2⟩ := info_parts info_rquote
  have hlen := allQ_len (p := p) (T := T) (inst := inst) (side := side)
  have hokA := allQ_ok (p := p) hOT.out inst side
  have HA : Hid (∀ W, Below w.heap.size w W → Calls Try.prog 24 #[p.val, .slice AT nT cT, .int .i64 inst, .int .i64 side] W (AnsQ W.heap.size W (allQ p T inst side))) := Lib.hid (fun W b => RAll14_any p AT nT cT T inst side W (Lib.hid (hp.out.below b)) (Lib.hid (hT.out.below b)) hOT hi hs hn)
  have HP : Hid (∀ (W : World) (x : Int), I64 x → Below w.heap.size w W → Calls Try.prog 48 #[p.val, .int .i64 inst, .int .i64 x] W fun e w' => e = .returned (.int .i64 (priceL p inst x)) ∧ Below W.heap.size W w') := Lib.hid (fun W x hx b => RefPrice_any p inst x W (Lib.hid (hp.out.below b)) hi hx)
  have hQ : quotesQ p T inst side = (allQ p T inst side).filter (fun q => decide (priceL p inst q.p = 0)) := rfl
  obtain ⟨L, eL⟩ : ∃ L, allQ p T inst side = L := ⟨_, rfl⟩
  rw [eL] at hlen hokA HA hQ
  obtain ⟨pf, epf⟩ : ∃ f : Int → Nat, (fun x => priceL p inst x) = f := ⟨_, rfl⟩
  replace HP : Hid (∀ (W : World) (x : Int), I64 x → Below w.heap.size w W → Calls Try.prog 48 #[p.val, .int .i64 inst, .int .i64 x] W fun e w' => e = .returned (.int .i64 (pf x : Int)) ∧ Below W.heap.size W w') := Lib.hid (by rw [← epf]; exact HP.out)
  have hQ2 : quotesQ p T inst side = L.filter (fun q => decide (pf q.p = 0)) := by rw [hQ, ← epf]
  rw [hQ2]
  clear hQ hQ2 epf eL hp hT hOT
  have hnx : Hid (∀ k x, L[k]? = some x → (L.take (k + 1)).filter (fun q => decide (pf q.p = 0)) = (L.take k).filter (fun q => decide (pf q.p = 0)) ++ (if decide (pf x.p = 0) = true then [x] else [])) := Lib.hid (fun k x h => filter_next _ h)
  have hfl : Hid (∀ k, ((L.take k).filter (fun q => decide (pf q.p = 0))).length ≤ 100) := Lib.hid (fun k => Nat.le_trans (List.length_filter_le _ _) (by rw [List.length_take]; omega))
  obtain ⟨G, eG⟩ : ∃ G : Nat → List Qt, (fun k => (L.take k).filter (fun q => decide (pf q.p = 0))) = G := ⟨_, rfl⟩
  have G0 : Hid (G 0 = []) := Lib.hid (by rw [← eG]; rfl)
  obtain ⟨n, en⟩ : ∃ n, L.length = n := ⟨_, rfl⟩
  have Gn : Hid (G n = L.filter (fun q => decide (pf q.p = 0))) := Lib.hid (by rw [← eG, ← en]; show (L.take L.length).filter _ = _; rw [List.take_length])
  replace hnx : Hid (∀ k x, L[k]? = some x → G (k + 1) = G k ++ (if decide (pf x.p = 0) = true then [x] else [])) := Lib.hid (fun k x h => by rw [← eG]; exact hnx.out k x h)
  replace hfl : Hid (∀ k, (G k).length ≤ 100) := Lib.hid (fun k => by rw [← eG]; exact hfl.out k)
  have hex : Hid (∀ k, k < n → ∃ x, L[k]? = some x) := Lib.hid (fun k hk => qt_at (by omega))
  obtain ⟨RQ, hRQ⟩ : ∃ R, L.filter (fun q => decide (pf q.p = 0)) = R := ⟨_, rfl⟩
  rw [hRQ] at Gn ⊢
  rw [en] at hlen
  replace hokA := Lib.hid hokA
  clear eG hRQ
  replace en := Lib.hid en
  obtain ⟨code, A1, n1, c1, tick, low, high, wide, rule, top, least, part, A2, n2, c2, Q, R⟩ := p
  replace HA : Hid (∀ W, Below w.heap.size w W → Calls Try.prog 24 #[.agg #[.string (str code), .slice A1 n1 c1, .int .i64 tick, .int .i64 low, .int .i64 high, .int .i64 wide, .int .i64 rule, .int .i64 top, .int .i64 least, .int .i64 part, .slice A2 n2 c2], .slice AT nT cT, .int .i64 inst, .int .i64 side] W (AnsQ W.heap.size W L)) := HA
  replace HP : Hid (∀ (W : World) (x : Int), I64 x → Below w.heap.size w W → Calls Try.prog 48 #[.agg #[.string (str code), .slice A1 n1 c1, .int .i64 tick, .int .i64 low, .int .i64 high, .int .i64 wide, .int .i64 rule, .int .i64 top, .int .i64 least, .int .i64 part, .slice A2 n2 c2], .int .i64 inst, .int .i64 x] W fun e w' => e = .returned (.int .i64 (pf x : Int)) ∧ Below W.heap.size W w') := HP
  show Calls Try.prog 26 #[.agg #[.string (str code), .slice A1 n1 c1, .int .i64 tick, .int .i64 low, .int .i64 high, .int .i64 wide, .int .i64 rule, .int .i64 top, .int .i64 least, .int .i64 part, .slice A2 n2 c2], .slice AT nT cT, .int .i64 inst, .int .i64 side] w _
  obtain ⟨W0, eW0⟩ : ∃ W0, w.alloc (.cells #[.string (str code), .slice A1 n1 c1, .int .i64 tick, .int .i64 low, .int .i64 high, .int .i64 wide, .int .i64 rule, .int .i64 top, .int .i64 least, .int .i64 part, .slice A2 n2 c2] 25) = W0 := ⟨_, rfl⟩
  obtain ⟨g, eg⟩ : ∃ g, w.heap.size = g := ⟨_, rfl⟩
  have hblk0 : W0.heap[g]? = some (.cells #[.string (str code), .slice A1 n1 c1, .int .i64 tick, .int .i64 low, .int .i64 high, .int .i64 wide, .int .i64 rule, .int .i64 top, .int .i64 least, .int .i64 part, .slice A2 n2 c2] 25 (0, 0)) := by rw [← eW0, ← eg]; exact heap_alloc_new w _
  have b00 : Below w.heap.size w W0 := by rw [← eW0]; exact (Below.refl _ w).alloc (Nat.le_refl _) _
  have KK : Hid (∀ W, Below W0.heap.size W0 W → W.heap[g]? = some (.cells #[.string (str code), .slice A1 n1 c1, .int .i64 tick, .int .i64 low, .int .i64 high, .int .i64 wide, .int .i64 rule, .int .i64 top, .int .i64 least, .int .i64 part, .slice A2 n2 c2] 25 (0, 0))) := Lib.hid (fun W b => (b.block g (Array.getElem?_eq_some_iff.1 hblk0).1).trans hblk0)
  have BW : Hid (∀ W, Below W0.heap.size W0 W → Below w.heap.size w W) := Lib.hid (fun W b => b00.trans (b.mono b00.size))
  obtain ⟨a0, a1, a2, a3, a4, a5, a6, a7, a8, a9, a10⟩ := row11 (heap_alloc_new w (.cells #[.string (str code), .slice A1 n1 c1, .int .i64 tick, .int .i64 low, .int .i64 high, .int .i64 wide, .int .i64 rule, .int .i64 top, .int .i64 least, .int .i64 part, .slice A2 n2 c2] 25))
  replace eW0 := Lib.hid eW0
  replace eg := Lib.hid eg
  clear hblk0 b00
  have B0 := Lib.hid (Below.refl W0.heap.size W0)
  go_enter Try.func26, Try.ntmps26
  go_wp2_with fail
  rw [eW0.out, eg.out]
  clear a0 a1 a2 a3 a4 a5 a6 a7 a8 a9 a10 eW0
  refine (HA.out W0 (BW.out _ B0.out)).mono ?_
  rintro e w1 ha
  obtain ⟨v, rfl, ho, bb⟩ := ha.out
  obtain ⟨A1', n1', c1', rfl, hv, q1, q2, q3, q4⟩ := ho
  have hn' : n1' = n := by rw [← en.out]; exact hv.1.symm
  subst hn'
  have B1 := Lib.hid (below_up B0.out bb)
  have hv1 := Lib.hid hv
  have own0 := Lib.hid (own_nil (fm := fQt) 64 w1 w1.heap.size)
  have B10 := Lib.hid (Below.refl w1.heap.size w1)
  have hV : Hid (∀ W, Below w1.heap.size w1 W → HV fQt W A1' n1' L) := Lib.hid (fun W b => hv.below b)
  clear ha hv bb q3 q4 B0 HA
  go_wp2_with fail
  go_loopw [10, 11] (fun u iv wr => ∃ k : Nat, iv = .int .i64 (k : Int) ∧ k ≤ n1' ∧ Hid (Own fQt 64 wr w1.heap.size u (G k)) ∧ Hid (Below w1.heap.size w1 wr)) (fun _ iv _ => n1' - (intOf iv).toNat)
  case atStart => exact ⟨0, rfl, by omega, by rw [G0.out]; exact own0, B10⟩
  case round =>
    clear own0 B10 hv1
    obtain ⟨k, rfl, hk, hO, hB⟩ := hrel
    by_cases hlt : k < n1'
    · have d1 : decide ((k : Int) < (n1' : Int)) = true := decide_eq_true (by omega)
      have d3 : (k : Int) < (n1' : Int) := by omega
      obtain ⟨x, hx⟩ := hex.out k hlt
      have hst := hnx.out k x hx
      have hxo := hokA.out x (List.mem_of_getElem? hx)
      obtain ⟨b, off, rfl, x0, x1, x2, x3, x4, x5⟩ := (hV.out _ hB.out).atQ hx
      have bl1 := below_up B1.out hB.out
      have hc := HP.out wr.drew x.p hxo.p (BW.out _ bl1.drew)
      obtain ⟨k0, k1, k2, k3, k4, k5, k6, k7, k8, k9, k10⟩ := row11 (KK.out _ bl1)
      obtain ⟨pv, epv⟩ : ∃ z, pf x.p = z := ⟨_, rfl⟩
      rw [epv] at hc hst
      obtain ⟨xp, xn, xi1, xs1, xi2, xs2⟩ := x
      simp only at x0 x1 x2 x3 x4 x5 hc
      replace hx := Lib.hid hx
      replace hxo := Lib.hid hxo
      replace epv := Lib.hid epv
      replace hc := Lib.hid hc
      replace hst := Lib.hid hst
      have hSof : Hid (∀ W W' : World, (fun W : World => W.cell? ⟨g, 0, none⟩ = some (.string (str code)) ∧ W.cell? ⟨g, 1, none⟩ = some (.slice A1 n1 c1) ∧ W.cell? ⟨g, 2, none⟩ = some (.int .i64 tick) ∧ W.cell? ⟨g, 3, none⟩ = some (.int .i64 low) ∧ W.cell? ⟨g, 4, none⟩ = some (.int .i64 high) ∧ W.cell? ⟨g, 5, none⟩ = some (.int .i64 wide) ∧ W.cell? ⟨g, 6, none⟩ = some (.int .i64 rule) ∧ W.cell? ⟨g, 7, none⟩ = some (.int .i64 top) ∧ W.cell? ⟨g, 8, none⟩ = some (.int .i64 least) ∧ W.cell? ⟨g, 9, none⟩ = some (.int .i64 part) ∧ W.cell? ⟨g, 10, none⟩ = some (.slice A2 n2 c2) ∧ W.cell? ⟨b, off + k * 6, none⟩ = some (.int .i64 xp) ∧ Below wr.heap.size wr W) W → Below W.heap.size W W' → (fun W : World => W.cell? ⟨g, 0, none⟩ = some (.string (str code)) ∧ W.cell? ⟨g, 1, none⟩ = some (.slice A1 n1 c1) ∧ W.cell? ⟨g, 2, none⟩ = some (.int .i64 tick) ∧ W.cell? ⟨g, 3, none⟩ = some (.int .i64 low) ∧ W.cell? ⟨g, 4, none⟩ = some (.int .i64 high) ∧ W.cell? ⟨g, 5, none⟩ = some (.int .i64 wide) ∧ W.cell? ⟨g, 6, none⟩ = some (.int .i64 rule) ∧ W.cell? ⟨g, 7, none⟩ = some (.int .i64 top) ∧ W.cell? ⟨g, 8, none⟩ = some (.int .i64 least) ∧ W.cell? ⟨g, 9, none⟩ = some (.int .i64 part) ∧ W.cell? ⟨g, 10, none⟩ = some (.slice A2 n2 c2) ∧ W.cell? ⟨b, off + k * 6, none⟩ = some (.int .i64 xp) ∧ Below wr.heap.size wr W) W') := Lib.hid (fun W W' hs b => ⟨(b.cell (World.block_lt_of_cell? W _ hs.1)).trans hs.1, (b.cell (World.block_lt_of_cell? W _ hs.2.1)).trans hs.2.1, (b.cell (World.block_lt_of_cell? W _ hs.2.2.1)).trans hs.2.2.1, (b.cell (World.block_lt_of_cell? W _ hs.2.2.2.1)).trans hs.2.2.2.1, (b.cell (World.block_lt_of_cell? W _ hs.2.2.2.2.1)).trans hs.2.2.2.2.1, (b.cell (World.block_lt_of_cell? W _ hs.2.2.2.2.2.1)).trans hs.2.2.2.2.2.1, (b.cell (World.block_lt_of_cell? W _ hs.2.2.2.2.2.2.1)).trans hs.2.2.2.2.2.2.1, (b.cell (World.block_lt_of_cell? W _ hs.2.2.2.2.2.2.2.1)).trans hs.2.2.2.2.2.2.2.1, (b.cell (World.block_lt_of_cell? W _ hs.2.2.2.2.2.2.2.2.1)).trans hs.2.2.2.2.2.2.2.2.1, (b.cell (World.block_lt_of_cell? W _ hs.2.2.2.2.2.2.2.2.2.1)).trans hs.2.2.2.2.2.2.2.2.2.1, (b.cell (World.block_lt_of_cell? W _ hs.2.2.2.2.2.2.2.2.2.2.1)).trans hs.2.2.2.2.2.2.2.2.2.2.1, (b.cell (World.block_lt_of_cell? W _ hs.2.2.2.2.2.2.2.2.2.2.2.1)).trans hs.2.2.2.2.2.2.2.2.2.2.2.1, hs.2.2.2.2.2.2.2.2.2.2.2.2.trans (b.mono hs.2.2.2.2.2.2.2.2.2.2.2.2.size)⟩)
      have z0 : (fun W : World => W.cell? ⟨g, 0, none⟩ = some (.string (str code)) ∧ W.cell? ⟨g, 1, none⟩ = some (.slice A1 n1 c1) ∧ W.cell? ⟨g, 2, none⟩ = some (.int .i64 tick) ∧ W.cell? ⟨g, 3, none⟩ = some (.int .i64 low) ∧ W.cell? ⟨g, 4, none⟩ = some (.int .i64 high) ∧ W.cell? ⟨g, 5, none⟩ = some (.int .i64 wide) ∧ W.cell? ⟨g, 6, none⟩ = some (.int .i64 rule) ∧ W.cell? ⟨g, 7, none⟩ = some (.int .i64 top) ∧ W.cell? ⟨g, 8, none⟩ = some (.int .i64 least) ∧ W.cell? ⟨g, 9, none⟩ = some (.int .i64 part) ∧ W.cell? ⟨g, 10, none⟩ = some (.slice A2 n2 c2) ∧ W.cell? ⟨b, off + k * 6, none⟩ = some (.int .i64 xp) ∧ Below wr.heap.size wr W) wr.drew := ⟨k0, k1, k2, k3, k4, k5, k6, k7, k8, k9, k10, x0, (Below.refl _ wr).drew⟩
      clear k0 k1 k2 k3 k4 k5 k6 k7 k8 k9 k10 x0 x1 x2 x3 x4 x5
      by_cases hpv : pv = 0
      · subst hpv
        replace hst : Hid (G (k + 1) = G k ++ [⟨xp, xn, xi1, xs1, xi2, xs2⟩]) := Lib.hid (by rw [hst.out, if_pos (by decide)])
        go_upto_region 6 with (fail)
        refine wp_region_held_drew (S := (fun W : World => W.cell? ⟨g, 0, none⟩ = some (.string (str code)) ∧ W.cell? ⟨g, 1, none⟩ = some (.slice A1 n1 c1) ∧ W.cell? ⟨g, 2, none⟩ = some (.int .i64 tick) ∧ W.cell? ⟨g, 3, none⟩ = some (.int .i64 low) ∧ W.cell? ⟨g, 4, none⟩ = some (.int .i64 high) ∧ W.cell? ⟨g, 5, none⟩ = some (.int .i64 wide) ∧ W.cell? ⟨g, 6, none⟩ = some (.int .i64 rule) ∧ W.cell? ⟨g, 7, none⟩ = some (.int .i64 top) ∧ W.cell? ⟨g, 8, none⟩ = some (.int .i64 least) ∧ W.cell? ⟨g, 9, none⟩ = some (.int .i64 part) ∧ W.cell? ⟨g, 10, none⟩ = some (.slice A2 n2 c2) ∧ W.cell? ⟨b, off + k * 6, none⟩ = some (.int .i64 xp) ∧ Below wr.heap.size wr W)) (by kernel_rfl) z0 (fun hHeld => ?_)
        refine wpAnyH_take (i := 0) (v := .agg #[.string (str code), .slice A1 n1 c1, .int .i64 tick, .int .i64 low, .int .i64 high, .int .i64 wide, .int .i64 rule, .int .i64 top, .int .i64 least, .int .i64 part, .slice A2 n2 c2]) rfl (by kernel_rfl) (by kernel_rfl) (by kernel_rfl) (fun _ _ _ h => h) (Or.inl ⟨by kernel_rfl, fun W hSw => ?_⟩) (by assumption) ?_
        · (try dsimp only at hSw)
          go_simp
        (try simp only [Act.put, List.setIfInBounds_toArray, List.set_cons_zero, List.set_cons_succ])
        refine wpAnyH_take (i := 1) (v := .int .i64 inst) rfl (by kernel_rfl) (by kernel_rfl) (by kernel_rfl) (fun _ _ _ h => h) (Or.inl ⟨by kernel_rfl, fun W hSw => ?_⟩) (by assumption) ?_
        · (try dsimp only at hSw)
          go_simp
        (try simp only [Act.put, List.setIfInBounds_toArray, List.set_cons_zero, List.set_cons_succ])
        refine wpAnyH_take (i := 2) (v := (.slice (some ⟨b, off, none⟩) n1' c1')) rfl (by kernel_rfl) (by kernel_rfl) (by kernel_rfl) (fun _ _ _ h => h) (Or.inl ⟨by kernel_rfl, fun W hSw => ?_⟩) (by assumption) ?_
        · (try dsimp only at hSw)
          go_simp
        (try simp only [Act.put, List.setIfInBounds_toArray, List.set_cons_zero, List.set_cons_succ])
        refine wpAnyH_take (i := 3) (v := .int .i64 (k : Int)) rfl (by kernel_rfl) (by kernel_rfl) (by kernel_rfl) (fun _ _ _ h => h) (Or.inl ⟨by kernel_rfl, fun W hSw => ?_⟩) (by assumption) ?_
        · (try dsimp only at hSw)
          go_simp
        (try simp only [Act.put, List.setIfInBounds_toArray, List.set_cons_zero, List.set_cons_succ])
        refine wpAnyH_take (i := 4) (v := .pointer (some ⟨b, off + k * 6, none⟩)) rfl (by kernel_rfl) (by kernel_rfl) (by kernel_rfl) (fun _ _ _ h => h) (Or.inl ⟨by kernel_rfl, fun W hSw => ?_⟩) (by assumption) ?_
        · (try dsimp only at hSw)
          go_simp
        (try simp only [Act.put, List.setIfInBounds_toArray, List.set_cons_zero, List.set_cons_succ])
        refine wpAnyH_take (i := 5) (v := .pointer (some ⟨b, off + k * 6, none⟩)) rfl (by kernel_rfl) (by kernel_rfl) (by kernel_rfl) (fun _ _ _ h => h) (Or.inl ⟨by kernel_rfl, fun W hSw => ?_⟩) (by assumption) ?_
        · (try dsimp only at hSw)
          go_simp
        (try simp only [Act.put, List.setIfInBounds_toArray, List.set_cons_zero, List.set_cons_succ])
        refine wpAnyH_take (i := 6) (v := .int .i64 xp) rfl (by kernel_rfl) (by kernel_rfl) (by kernel_rfl) (fun _ _ _ h => h) (Or.inl ⟨by kernel_rfl, fun W hSw => ?_⟩) (by assumption) ?_
        · (try dsimp only at hSw)
          go_simp
        (try simp only [Act.put, List.setIfInBounds_toArray, List.set_cons_zero, List.set_cons_succ])
        refine wpAnyH_ready (rs := [7]) (by kernel_rfl) (by simp) ?_
        refine AllReadyH.cons rfl (fun K hK => ?_) AllReadyH.nil
        go_simp
        refine hc.out.mono ?_
        rintro e w5 ⟨rfl, b5⟩
        have z5 := hSof.out _ _ z0 b5
        go_wp2_with fail
        refine hK.out _ _ z5 (fun hHeld => ?_)
        clear hK K
        (try simp only [Act.put, List.setIfInBounds_toArray, List.set_cons_zero, List.set_cons_succ])
        refine wpAnyH_take (i := 8) (v := .bool true) rfl (by kernel_rfl) (by kernel_rfl) (by kernel_rfl) (fun _ _ _ h => h) (Or.inl ⟨by kernel_rfl, fun W hSw => ?_⟩) (by assumption) ?_
        · (try dsimp only at hSw)
          go_simp
        (try simp only [Act.put, List.setIfInBounds_toArray, List.set_cons_zero, List.set_cons_succ])
        refine wpAnyH_done (by kernel_rfl) ?_ _
        (try simp only [List.getElem_toArray, List.getElem_cons_succ, List.getElem_cons_zero, Act.put, List.setIfInBounds_toArray, List.set_cons_zero, List.set_cons_succ])
        have hO5 := Lib.hid ((show Own fQt 64 wr.drew w1.heap.size u10 (G k) from hO.out).below b5)
        have B5 := below_up hB.out (show Below wr.heap.size wr w5 from z5.2.2.2.2.2.2.2.2.2.2.2.2)
        have sz5 := B5.size
        obtain ⟨b', off', e', y0, y1, y2, y3, y4, y5⟩ := (hV.out _ B5).atQ hx.out
        injection e' with e'
        injection e' with e1 e2
        subst e1; subst e2
        simp only at y0 y1 y2 y3 y4 y5
        have h1 := Lib.hid (q_lit w5 xp xn xi1 xs1 xi2 xs2 64)
        have sz3 : w1.heap.size ≤ (w5.alloc (.cells #[.int .i64 xp, .int .i64 xn, .int .i64 xi1, .int .i64 xs1, .int .i64 xi2, .int .i64 xs2] 64)).heap.size := by simp; omega
        have ba := Lib.hid (B5.alloc sz5 (.cells #[.int .i64 xp, .int .i64 xn, .int .i64 xi1, .int .i64 xs1, .int .i64 xi2, .int .i64 xs2] 64))
        have hgl := hfl.out k
        clear z5 b5 hHeld B5 sz5 z0
        go_wp2_with (at_builtin; refine wpList_onto_g (fm := fQt) (T := 64) (by rfl) (.tmp 32) (.tmp 37) 57 (by rfl) w1.heap.size i0 (.agg #[.int .i64 0, .int .i64 0, .int .i64 0, .int .i64 0, .int .i64 0, .int .i64 0]) 48 Try.underlying57 hi0 hz0 hz1 hz2 rfl (by omega) u10 (G k) (by rfl) (hO5.out.below ((Below.refl _ _).alloc (Nat.le_refl _) _)) (some ⟨w5.heap.size, 0, none⟩) 1 1 [⟨xp, xn, xi1, xs1, xi2, xs2⟩] (by rfl) h1.out (fun e => by cases e) (by omega) sz3 ?_)
        intro v8 w8 r8 g8 o8
        have r8' : Hid (Own fQt 64 w8 w1.heap.size v8 (G (k + 1))) := Lib.hid (by rw [hst.out]; exact r8)
        have B8 := Lib.hid (ba.out.grown g8 sz3 (fun q hq => (hO5.out.lt q hq).1))
        clear r8 g8 o8 y0 y1 y2 y3 y4 y5 h1 ba hO5
        go_wp2_with fail
        go_roundw
        case rel => exact ⟨k + 1, by go_num, by omega, r8', B8⟩
        case measure => simp [intOf]; omega
      · have dpv : ((pv : Int) == 0) = false := beq_eq_false_iff_ne.2 (by omega)
        have dpv2 : decide ((pv : Int) = 0) = false := decide_eq_false (by omega)
        have dpv3 : (pv == 0) = false := beq_eq_false_iff_ne.2 hpv
        replace hst : Hid (G (k + 1) = G k ++ []) := Lib.hid (by rw [hst.out, if_neg (by rw [decide_eq_false hpv]; decide)])
        go_upto_region 6 with (fail)
        refine wp_region_held_drew (S := (fun W : World => W.cell? ⟨g, 0, none⟩ = some (.string (str code)) ∧ W.cell? ⟨g, 1, none⟩ = some (.slice A1 n1 c1) ∧ W.cell? ⟨g, 2, none⟩ = some (.int .i64 tick) ∧ W.cell? ⟨g, 3, none⟩ = some (.int .i64 low) ∧ W.cell? ⟨g, 4, none⟩ = some (.int .i64 high) ∧ W.cell? ⟨g, 5, none⟩ = some (.int .i64 wide) ∧ W.cell? ⟨g, 6, none⟩ = some (.int .i64 rule) ∧ W.cell? ⟨g, 7, none⟩ = some (.int .i64 top) ∧ W.cell? ⟨g, 8, none⟩ = some (.int .i64 least) ∧ W.cell? ⟨g, 9, none⟩ = some (.int .i64 part) ∧ W.cell? ⟨g, 10, none⟩ = some (.slice A2 n2 c2) ∧ W.cell? ⟨b, off + k * 6, none⟩ = some (.int .i64 xp) ∧ Below wr.heap.size wr W)) (by kernel_rfl) z0 (fun hHeld => ?_)
        refine wpAnyH_take (i := 0) (v := .agg #[.string (str code), .slice A1 n1 c1, .int .i64 tick, .int .i64 low, .int .i64 high, .int .i64 wide, .int .i64 rule, .int .i64 top, .int .i64 least, .int .i64 part, .slice A2 n2 c2]) rfl (by kernel_rfl) (by kernel_rfl) (by kernel_rfl) (fun _ _ _ h => h) (Or.inl ⟨by kernel_rfl, fun W hSw => ?_⟩) (by assumption) ?_
        · (try dsimp only at hSw)
          go_simp
        (try simp only [Act.put, List.setIfInBounds_toArray, List.set_cons_zero, List.set_cons_succ])
        refine wpAnyH_take (i := 1) (v := .int .i64 inst) rfl (by kernel_rfl) (by kernel_rfl) (by kernel_rfl) (fun _ _ _ h => h) (Or.inl ⟨by kernel_rfl, fun W hSw => ?_⟩) (by assumption) ?_
        · (try dsimp only at hSw)
          go_simp
        (try simp only [Act.put, List.setIfInBounds_toArray, List.set_cons_zero, List.set_cons_succ])
        refine wpAnyH_take (i := 2) (v := (.slice (some ⟨b, off, none⟩) n1' c1')) rfl (by kernel_rfl) (by kernel_rfl) (by kernel_rfl) (fun _ _ _ h => h) (Or.inl ⟨by kernel_rfl, fun W hSw => ?_⟩) (by assumption) ?_
        · (try dsimp only at hSw)
          go_simp
        (try simp only [Act.put, List.setIfInBounds_toArray, List.set_cons_zero, List.set_cons_succ])
        refine wpAnyH_take (i := 3) (v := .int .i64 (k : Int)) rfl (by kernel_rfl) (by kernel_rfl) (by kernel_rfl) (fun _ _ _ h => h) (Or.inl ⟨by kernel_rfl, fun W hSw => ?_⟩) (by assumption) ?_
        · (try dsimp only at hSw)
          go_simp
        (try simp only [Act.put, List.setIfInBounds_toArray, List.set_cons_zero, List.set_cons_succ])
        refine wpAnyH_take (i := 4) (v := .pointer (some ⟨b, off + k * 6, none⟩)) rfl (by kernel_rfl) (by kernel_rfl) (by kernel_rfl) (fun _ _ _ h => h) (Or.inl ⟨by kernel_rfl, fun W hSw => ?_⟩) (by assumption) ?_
        · (try dsimp only at hSw)
          go_simp
        (try simp only [Act.put, List.setIfInBounds_toArray, List.set_cons_zero, List.set_cons_succ])
        refine wpAnyH_take (i := 5) (v := .pointer (some ⟨b, off + k * 6, none⟩)) rfl (by kernel_rfl) (by kernel_rfl) (by kernel_rfl) (fun _ _ _ h => h) (Or.inl ⟨by kernel_rfl, fun W hSw => ?_⟩) (by assumption) ?_
        · (try dsimp only at hSw)
          go_simp
        (try simp only [Act.put, List.setIfInBounds_toArray, List.set_cons_zero, List.set_cons_succ])
        refine wpAnyH_take (i := 6) (v := .int .i64 xp) rfl (by kernel_rfl) (by kernel_rfl) (by kernel_rfl) (fun _ _ _ h => h) (Or.inl ⟨by kernel_rfl, fun W hSw => ?_⟩) (by assumption) ?_
        · (try dsimp only at hSw)
          go_simp
        (try simp only [Act.put, List.setIfInBounds_toArray, List.set_cons_zero, List.set_cons_succ])
        refine wpAnyH_ready (rs := [7]) (by kernel_rfl) (by simp) ?_
        refine AllReadyH.cons rfl (fun K hK => ?_) AllReadyH.nil
        go_simp
        refine hc.out.mono ?_
        rintro e w5 ⟨rfl, b5⟩
        have z5 := hSof.out _ _ z0 b5
        go_wp2_with fail
        refine hK.out _ _ z5 (fun hHeld => ?_)
        clear hK K
        (try simp only [Act.put, List.setIfInBounds_toArray, List.set_cons_zero, List.set_cons_succ])
        refine wpAnyH_take (i := 8) (v := .bool false) rfl (by kernel_rfl) (by kernel_rfl) (by kernel_rfl) (fun _ _ _ h => h) (Or.inl ⟨by kernel_rfl, fun W hSw => ?_⟩) (by assumption) ?_
        · (try dsimp only at hSw)
          go_simp
        (try simp only [Act.put, List.setIfInBounds_toArray, List.set_cons_zero, List.set_cons_succ])
        refine wpAnyH_done (by kernel_rfl) ?_ _
        (try simp only [List.getElem_toArray, List.getElem_cons_succ, List.getElem_cons_zero, Act.put, List.setIfInBounds_toArray, List.set_cons_zero, List.set_cons_succ])
        have hO5 : Hid (Own fQt 64 w5 w1.heap.size u10 (G (k + 1))) := Lib.hid (by rw [hst.out, List.append_nil]; exact (show Own fQt 64 wr.drew w1.heap.size u10 (G k) from hO.out).below b5)
        have B5 := Lib.hid (below_up hB.out (show Below wr.heap.size wr w5 from z5.2.2.2.2.2.2.2.2.2.2.2.2))
        clear z5 b5 hHeld z0
        go_wp2_with fail
        go_roundw
        case rel => exact ⟨k + 1, by go_num, by omega, hO5, B5⟩
        case measure => simp [intOf]; omega
    · obtain rfl : n1' = k := by omega
      have d1 : decide ((n1' : Int) < (n1' : Int)) = false := by simp
      have fin : Hid (AnsQ w.heap.size w RQ (.returned u10) wr) := Lib.hid (by
        have h9 := hO.out
        rw [Gn.out] at h9
        obtain ⟨A9, c9, e9, h9, l9, m9, n9, at9⟩ := h9.slice
        rw [e9]
        have s1 := (BW.out _ B1.out).size
        exact ⟨A9, _, c9, rfl, h9, l9, m9, n9, (fun ad e => by have := (at9 ad e).2.2.1; omega), BW.out _ (below_up B1.out hB.out)⟩)
      clear hO hB hk hlt
      go_wp2_with fail
      go_ret
      exact fin.out
end Go.Proofs.Ytdeofifidjbolaa

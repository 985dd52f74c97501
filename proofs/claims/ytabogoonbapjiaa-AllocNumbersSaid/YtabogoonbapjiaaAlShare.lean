/-
  The program's shares by the rule of a product: Share of alloc.
-/
import Derived.Test.YtabogoonbapjiaaAlLeaf
import Derived.Test.YtabogoonbapjiaaProdS
import Derived.Test.YtabogoonbapjiaaPrShare
import Derived.Test.YtabogoonbapjiaaSpShare
import Derived.Deep.RegionHeld3
import Derived.Deep.Cut
namespace Go.Proofs.Ytabogoonbapjiaa
open Go.RowKit
set_option linter.unusedVariables false
set_option linter.unusedSimpArgs false

/-- The four numbers of a product that its rule asks. -/
structure PD.Can (p : PD) : Prop where
  rule : I64 p.rule
  top : I64 p.top
  least : I64 p.least
  part : I64 p.part
theorem PD.Ok.can {p : PD} {w : World} (h : p.Ok w) : p.Can := ⟨h.rule, h.top, h.least, h.part⟩
theorem PD.can_of {p : PD} (h1 : I64 p.rule) (h2 : I64 p.top) (h3 : I64 p.least) (h4 : I64 p.part) : p.Can := ⟨h1, h2, h3, h4⟩
theorem row_of {w : World} {base base' : Nat} {v : Value} {l : List Int} (h : Row w base v l) (hb : base' ≤ base) : Row w base' v l := h.base hb

set_option maxRecDepth 100000 in
set_option maxHeartbeats 3200000 in
theorem AShare_any (p : PD) (A : Option Addr) (n cap : Nat) (L : List Or) (q : Int) (w : World) (hn : n ≤ 1000000) (q1 : -9223372036854775808 ≤ q) (q2 : q ≤ 9223372036854775807) (hp : Hid p.Can) (h : Hid (HV fO w A n L)) (hok : Hid (OkO L)) :
    Calls Try.prog 9 #[p.val, .slice A n cap, .int .i64 q] w (Gave w (allocL p.rule p.top p.least p.part L q)) := by
  obtain ⟨⟨r1, r2⟩, ⟨t1, t2⟩, ⟨m1, m2⟩, ⟨p1, p2⟩⟩ := hp.out
  obtain ⟨code, A1, n1, c1, tick, low, high, wide, rule, top, least, part, A2, n2, c2, Q, R⟩ := p
  simp only at r1 r2 t1 t2 m1 m2 p1 p2
  clear hp
  show Calls Try.prog 9 #[.agg #[.string (str code), .slice A1 n1 c1, .int .i64 tick, .int .i64 low, .int .i64 high, .int .i64 wide, .int .i64 rule, .int .i64 top, .int .i64 least, .int .i64 part, .slice A2 n2 c2], .slice A n cap, .int .i64 q] w (Gave w (allocL rule top least part L q))
  have hlen := h.out.1
  have hql := qtys_len L
  have iQ : Hid (∀ x ∈ qtys L, I64 x) := Lib.hid hok.out.nums
  obtain ⟨tp1, tp2⟩ := topO_range L
  rw [hlen] at hql tp2
  obtain ⟨X, eX⟩ : ∃ X, allocL rule top least part L q = X := ⟨_, rfl⟩
  obtain ⟨S, eS⟩ : ∃ S, qtys L = S := ⟨_, rfl⟩
  obtain ⟨tp, etp⟩ : ∃ tp, topO L = tp := ⟨_, rfl⟩
  have hX1 : Hid (rule = 1 → shareL S q = X) := Lib.hid (fun e => by rw [← eX, alloc_first e, eS])
  have hX2 : Hid (rule = 2 → topL S tp top least q = X) := Lib.hid (fun e => by rw [← eX, alloc_share e, eS, etp])
  have hX3 : Hid (rule = 3 → splitL S part least q = X) := Lib.hid (fun e => by rw [← eX, alloc_mixed e, eS])
  have hX4 : Hid (rule ≠ 1 → rule ≠ 2 → rule ≠ 3 → [] = X) := Lib.hid (fun a b c => by rw [← eX, alloc_no a b c])
  rw [eS] at hql iQ
  rw [etp] at tp1 tp2
  rw [eX]
  have HQ : Hid (∀ W, Below w.heap.size w W → Calls Try.prog 19 #[.slice A n cap] W (Gave W S)) := Lib.hid (fun W b => by rw [← eS]; exact AQty_any A n cap L W hn (Lib.hid (h.out.below b)) hok)
  have HT : Hid (∀ W, Below w.heap.size w W → Calls Try.prog 20 #[.slice A n cap] W fun e w' => e = .returned (.int .i64 tp) ∧ Below W.heap.size W w') := Lib.hid (fun W b => by rw [← etp]; exact ATop_any A n cap L W hn (Lib.hid (h.out.below b)))
  clear eX eS etp hlen h hok
  show Calls Try.prog 9 #[.agg #[.string (str code), .slice A1 n1 c1, .int .i64 tick, .int .i64 low, .int .i64 high, .int .i64 wide, .int .i64 rule, .int .i64 top, .int .i64 least, .int .i64 part, .slice A2 n2 c2], .slice A n cap, .int .i64 q] w _
  obtain ⟨W0, eW0⟩ : ∃ W0, w.alloc (.cells #[.string (str code), .slice A1 n1 c1, .int .i64 tick, .int .i64 low, .int .i64 high, .int .i64 wide, .int .i64 rule, .int .i64 top, .int .i64 least, .int .i64 part, .slice A2 n2 c2] 28) = W0 := ⟨_, rfl⟩
  obtain ⟨pb, epb⟩ : ∃ pb, w.heap.size = pb := ⟨_, rfl⟩
  have hblk0 : Hid (W0.heap[pb]? = some (.cells #[.string (str code), .slice A1 n1 c1, .int .i64 tick, .int .i64 low, .int .i64 high, .int .i64 wide, .int .i64 rule, .int .i64 top, .int .i64 least, .int .i64 part, .slice A2 n2 c2] 28 (0, 0))) := Lib.hid (by rw [← eW0, ← epb]; exact heap_alloc_new w _)
  have hB0 : Hid (Below pb w W0) := Lib.hid (by rw [← eW0, ← epb]; exact (Below.refl _ w).alloc (Nat.le_refl _) _)
  have s0 : Hid (pb < W0.heap.size) := Lib.hid (Array.getElem?_eq_some_iff.1 hblk0.out).1
  replace eW0 := Lib.hid eW0
  replace epb := Lib.hid epb
  have a6 : (w.alloc (.cells #[.string (str code), .slice A1 n1 c1, .int .i64 tick, .int .i64 low, .int .i64 high, .int .i64 wide, .int .i64 rule, .int .i64 top, .int .i64 least, .int .i64 part, .slice A2 n2 c2] 28)).cell? ⟨w.heap.size, 6, none⟩ = some (.int .i64 rule) := by rw [eW0.out, epb.out, Lib.cell_of_heap hblk0.out]; rfl
  have HQ' : Hid (∀ W, Below pb w W → Calls Try.prog 19 #[.slice A n cap] W (Gave W S)) := Lib.hid (by rw [← epb.out]; exact HQ.out)
  have HT' : Hid (∀ W, Below pb w W → Calls Try.prog 20 #[.slice A n cap] W fun e w' => e = .returned (.int .i64 tp) ∧ Below W.heap.size W w') := Lib.hid (by rw [← epb.out]; exact HT.out)
  have spb : Hid (pb = w.heap.size) := Lib.hid epb.out.symm
  clear HQ HT
  by_cases h1 : rule = 1
  · have e1 := hX1.out h1
    subst h1
    replace e1 := Lib.hid e1
    clear hX1 hX2 hX3 hX4
    go_enter Try.func9, Try.ntmps9
    go_wp2_with fail
    rw [eW0.out]
    clear a6 eW0
    refine (HQ'.out W0 hB0.out).mono ?_
    rintro e w2 ⟨v, rfl, rr, b2⟩
    obtain ⟨Aq, cq, rfl, hq, -, lq, -, -⟩ := rr.slice iQ.out
    rw [hql] at hq lq ⊢
    have B2 := Lib.hid (hB0.out.trans (b2.mono (Nat.le_of_lt s0.out)))
    have g2 := Lib.hid (Nat.le_trans (Nat.le_of_lt s0.out) b2.size)
    have HS := FShare_any Aq n cq S q w2 (by omega) q1 q2 (Lib.hid hq)
    rw [e1.out] at HS
    replace HS := Lib.hid HS
    clear rr b2 hq
    go_wp2_with fail
    refine HS.out.mono ?_
    rintro e w3 ⟨v, rfl, r3, b3⟩
    replace r3 := Lib.hid (r3.base g2.out)
    have B3 := Lib.hid (B2.out.trans (b3.mono g2.out))
    clear HS b3
    go_wp2_with fail
    go_ret
    exact ⟨v, rfl, by rw [epb.out]; exact r3.out, by rw [epb.out]; exact B3.out⟩
  have n1' : (rule == 1) = false := beq_eq_false_iff_ne.2 h1
  have m1' : decide (rule = 1) = false := decide_eq_false h1
  by_cases h2 : rule = 2
  · have e1 := hX2.out h2
    subst h2
    replace e1 := Lib.hid e1
    clear hX1 hX2 hX3 hX4
    go_enter Try.func9, Try.ntmps9
    go_upto_region 5 with (fail)
    rw [eW0.out, epb.out]
    clear a6 eW0
    have hSof : Hid (∀ W W' : World, (fun W => W.cell? ⟨pb, 7, none⟩ = some (.int .i64 top) ∧ W.cell? ⟨pb, 8, none⟩ = some (.int .i64 least) ∧ Below pb w W ∧ pb ≤ W.heap.size) W → Below W.heap.size W W' → (fun W => W.cell? ⟨pb, 7, none⟩ = some (.int .i64 top) ∧ W.cell? ⟨pb, 8, none⟩ = some (.int .i64 least) ∧ Below pb w W ∧ pb ≤ W.heap.size) W') := Lib.hid (fun W W' hs b => ⟨(b.cell (World.block_lt_of_cell? W _ hs.1)).trans hs.1, (b.cell (World.block_lt_of_cell? W _ hs.2.1)).trans hs.2.1, hs.2.2.1.trans (b.mono hs.2.2.2), Nat.le_trans hs.2.2.2 b.size⟩)
    have z0 : (fun W => W.cell? ⟨pb, 7, none⟩ = some (.int .i64 top) ∧ W.cell? ⟨pb, 8, none⟩ = some (.int .i64 least) ∧ Below pb w W ∧ pb ≤ W.heap.size) W0.drew := ⟨by rw [World.cell?_drew, Lib.cell_of_heap hblk0.out]; rfl, by rw [World.cell?_drew, Lib.cell_of_heap hblk0.out]; rfl, hB0.out.drew, Nat.le_of_lt s0.out⟩
    refine wp_region_held_drew (S := (fun W => W.cell? ⟨pb, 7, none⟩ = some (.int .i64 top) ∧ W.cell? ⟨pb, 8, none⟩ = some (.int .i64 least) ∧ Below pb w W ∧ pb ≤ W.heap.size)) (by kernel_rfl) z0 (fun hHeld => ?_)
    refine wpAnyH_take (i := 0) (v := .slice A n cap) rfl (by kernel_rfl) (by kernel_rfl) (by kernel_rfl) (fun _ _ _ h => h) (Or.inl ⟨by kernel_rfl, fun W hSw => ?_⟩) (by assumption) ?_
    · (try dsimp only at hSw)
      go_simp
    (try simp only [Act.put, List.setIfInBounds_toArray, List.set_cons_zero, List.set_cons_succ])
    refine wpAnyH_take (i := 2) (v := .slice A n cap) rfl (by kernel_rfl) (by kernel_rfl) (by kernel_rfl) (fun _ _ _ h => h) (Or.inl ⟨by kernel_rfl, fun W hSw => ?_⟩) (by assumption) ?_
    · (try dsimp only at hSw)
      go_simp
    (try simp only [Act.put, List.setIfInBounds_toArray, List.set_cons_zero, List.set_cons_succ])
    refine wpAnyH_take (i := 4) (v := .pointer (some ⟨pb, 7, none⟩)) rfl (by kernel_rfl) (by kernel_rfl) (by kernel_rfl) (fun _ _ _ h => h) (Or.inl ⟨by kernel_rfl, fun W hSw => ?_⟩) (by assumption) ?_
    · (try dsimp only at hSw)
      go_simp
    (try simp only [Act.put, List.setIfInBounds_toArray, List.set_cons_zero, List.set_cons_succ])
    refine wpAnyH_take (i := 5) (v := .int .i64 top) rfl (by kernel_rfl) (by kernel_rfl) (by kernel_rfl) (fun _ _ _ h => h) (Or.inl ⟨by kernel_rfl, fun W hSw => ?_⟩) (by assumption) ?_
    · (try dsimp only at hSw)
      go_simp
    (try simp only [Act.put, List.setIfInBounds_toArray, List.set_cons_zero, List.set_cons_succ])
    refine wpAnyH_take (i := 6) (v := .pointer (some ⟨pb, 8, none⟩)) rfl (by kernel_rfl) (by kernel_rfl) (by kernel_rfl) (fun _ _ _ h => h) (Or.inl ⟨by kernel_rfl, fun W hSw => ?_⟩) (by assumption) ?_
    · (try dsimp only at hSw)
      go_simp
    (try simp only [Act.put, List.setIfInBounds_toArray, List.set_cons_zero, List.set_cons_succ])
    refine wpAnyH_take (i := 7) (v := .int .i64 least) rfl (by kernel_rfl) (by kernel_rfl) (by kernel_rfl) (fun _ _ _ h => h) (Or.inl ⟨by kernel_rfl, fun W hSw => ?_⟩) (by assumption) ?_
    · (try dsimp only at hSw)
      go_simp
    (try simp only [Act.put, List.setIfInBounds_toArray, List.set_cons_zero, List.set_cons_succ])
    refine wpAnyH_take (i := 8) (v := .int .i64 q) rfl (by kernel_rfl) (by kernel_rfl) (by kernel_rfl) (fun _ _ _ h => h) (Or.inl ⟨by kernel_rfl, fun W hSw => ?_⟩) (by assumption) ?_
    · (try dsimp only at hSw)
      go_simp
    (try simp only [Act.put, List.setIfInBounds_toArray, List.set_cons_zero, List.set_cons_succ])
    refine wpAnyH_ready (rs := [1]) (by kernel_rfl) (by simp) ?_
    refine AllReadyH.cons rfl (fun K hK => ?_) AllReadyH.nil
    go_simp
    refine (HQ'.out _ z0.2.2.1).mono ?_
    rintro e w2 ⟨v, rfl, r2, b2⟩
    obtain ⟨Aq, cq, rfl, hq, -, lq, -, -⟩ := r2.slice iQ.out
    rw [hql] at hq lq ⊢
    have z2 := hSof.out _ _ z0 b2
    replace hq := Lib.hid hq
    clear r2 b2
    go_wp2_with fail
    refine hK.out _ _ z2 (fun hHeld => ?_)
    clear hK K
    (try simp only [Act.put, List.setIfInBounds_toArray, List.set_cons_zero, List.set_cons_succ])
    refine wpAnyH_ready (rs := [3]) (by kernel_rfl) (by simp) ?_
    refine AllReadyH.cons rfl (fun K hK => ?_) AllReadyH.nil
    go_simp
    refine (HT'.out _ z2.2.2.1).mono ?_
    rintro e w3 ⟨rfl, b3⟩
    have z3 := hSof.out _ _ z2 b3
    have hq3 := Lib.hid (hq.out.below b3)
    clear b3 hq
    go_wp2_with fail
    refine hK.out _ _ z3 (fun hHeld => ?_)
    clear hK K
    (try simp only [Act.put, List.setIfInBounds_toArray, List.set_cons_zero, List.set_cons_succ])
    refine wpAnyH_ready (rs := [9]) (by kernel_rfl) (by simp) ?_
    refine AllReadyH.cons rfl (fun K hK => ?_) AllReadyH.nil
    go_simp
    have HS := PShare_any Aq n cq S tp top least q w3 (by omega) (by omega) (by omega) t1 t2 m1 m2 q1 q2 hq3
    rw [e1.out] at HS
    replace HS := Lib.hid HS
    refine HS.out.mono ?_
    rintro e w5 ⟨v5, rfl, r5, b5⟩
    have z5 := hSof.out _ _ z3 b5
    have z5b := Lib.hid z3.2.2.2
    clear HS b5 hq3
    go_wp2_with fail
    refine hK.out _ _ z5 (fun hHeld => ?_)
    clear hK K
    (try simp only [Act.put, List.setIfInBounds_toArray, List.set_cons_zero, List.set_cons_succ])
    refine wpAnyH_take (i := 10) (v := v5) rfl (by kernel_rfl) (by kernel_rfl) (by kernel_rfl) (fun _ _ _ h => h) (Or.inl ⟨by kernel_rfl, fun W hSw => ?_⟩) (by assumption) ?_
    · (try dsimp only at hSw)
      go_simp
    (try simp only [Act.put, List.setIfInBounds_toArray, List.set_cons_zero, List.set_cons_succ])
    refine wpAnyH_done (by kernel_rfl) ?_ _
    (try simp only [List.getElem_toArray, List.getElem_cons_succ, List.getElem_cons_zero, Act.put, List.setIfInBounds_toArray, List.set_cons_zero, List.set_cons_succ])
    replace r5 := Lib.hid (r5.base z5b.out)
    have B5 := Lib.hid z5.2.2.1
    clear z5 hHeld
    go_wp2_with fail
    go_ret
    exact ⟨_, rfl, by rw [epb.out]; exact r5.out, by rw [epb.out]; exact B5.out⟩
  have n2' : (rule == 2) = false := beq_eq_false_iff_ne.2 h2
  have m2' : decide (rule = 2) = false := decide_eq_false h2
  by_cases h3 : rule = 3
  · have e1 := hX3.out h3
    subst h3
    replace e1 := Lib.hid e1
    clear hX1 hX2 hX3 hX4
    go_enter Try.func9, Try.ntmps9
    go_upto_region 7 with (fail)
    rw [eW0.out, epb.out]
    clear a6 eW0
    have hSof : Hid (∀ W W' : World, (fun W => W.cell? ⟨pb, 9, none⟩ = some (.int .i64 part) ∧ W.cell? ⟨pb, 8, none⟩ = some (.int .i64 least) ∧ Below pb w W ∧ pb ≤ W.heap.size) W → Below W.heap.size W W' → (fun W => W.cell? ⟨pb, 9, none⟩ = some (.int .i64 part) ∧ W.cell? ⟨pb, 8, none⟩ = some (.int .i64 least) ∧ Below pb w W ∧ pb ≤ W.heap.size) W') := Lib.hid (fun W W' hs b => ⟨(b.cell (World.block_lt_of_cell? W _ hs.1)).trans hs.1, (b.cell (World.block_lt_of_cell? W _ hs.2.1)).trans hs.2.1, hs.2.2.1.trans (b.mono hs.2.2.2), Nat.le_trans hs.2.2.2 b.size⟩)
    have z0 : (fun W => W.cell? ⟨pb, 9, none⟩ = some (.int .i64 part) ∧ W.cell? ⟨pb, 8, none⟩ = some (.int .i64 least) ∧ Below pb w W ∧ pb ≤ W.heap.size) W0.drew := ⟨by rw [World.cell?_drew, Lib.cell_of_heap hblk0.out]; rfl, by rw [World.cell?_drew, Lib.cell_of_heap hblk0.out]; rfl, hB0.out.drew, Nat.le_of_lt s0.out⟩
    refine wp_region_held_drew (S := (fun W => W.cell? ⟨pb, 9, none⟩ = some (.int .i64 part) ∧ W.cell? ⟨pb, 8, none⟩ = some (.int .i64 least) ∧ Below pb w W ∧ pb ≤ W.heap.size)) (by kernel_rfl) z0 (fun hHeld => ?_)
    refine wpAnyH_take (i := 0) (v := .slice A n cap) rfl (by kernel_rfl) (by kernel_rfl) (by kernel_rfl) (fun _ _ _ h => h) (Or.inl ⟨by kernel_rfl, fun W hSw => ?_⟩) (by assumption) ?_
    · (try dsimp only at hSw)
      go_simp
    (try simp only [Act.put, List.setIfInBounds_toArray, List.set_cons_zero, List.set_cons_succ])
    refine wpAnyH_take (i := 2) (v := .pointer (some ⟨pb, 9, none⟩)) rfl (by kernel_rfl) (by kernel_rfl) (by kernel_rfl) (fun _ _ _ h => h) (Or.inl ⟨by kernel_rfl, fun W hSw => ?_⟩) (by assumption) ?_
    · (try dsimp only at hSw)
      go_simp
    (try simp only [Act.put, List.setIfInBounds_toArray, List.set_cons_zero, List.set_cons_succ])
    refine wpAnyH_take (i := 3) (v := .int .i64 part) rfl (by kernel_rfl) (by kernel_rfl) (by kernel_rfl) (fun _ _ _ h => h) (Or.inl ⟨by kernel_rfl, fun W hSw => ?_⟩) (by assumption) ?_
    · (try dsimp only at hSw)
      go_simp
    (try simp only [Act.put, List.setIfInBounds_toArray, List.set_cons_zero, List.set_cons_succ])
    refine wpAnyH_take (i := 4) (v := .pointer (some ⟨pb, 8, none⟩)) rfl (by kernel_rfl) (by kernel_rfl) (by kernel_rfl) (fun _ _ _ h => h) (Or.inl ⟨by kernel_rfl, fun W hSw => ?_⟩) (by assumption) ?_
    · (try dsimp only at hSw)
      go_simp
    (try simp only [Act.put, List.setIfInBounds_toArray, List.set_cons_zero, List.set_cons_succ])
    refine wpAnyH_take (i := 5) (v := .int .i64 least) rfl (by kernel_rfl) (by kernel_rfl) (by kernel_rfl) (fun _ _ _ h => h) (Or.inl ⟨by kernel_rfl, fun W hSw => ?_⟩) (by assumption) ?_
    · (try dsimp only at hSw)
      go_simp
    (try simp only [Act.put, List.setIfInBounds_toArray, List.set_cons_zero, List.set_cons_succ])
    refine wpAnyH_take (i := 6) (v := .int .i64 q) rfl (by kernel_rfl) (by kernel_rfl) (by kernel_rfl) (fun _ _ _ h => h) (Or.inl ⟨by kernel_rfl, fun W hSw => ?_⟩) (by assumption) ?_
    · (try dsimp only at hSw)
      go_simp
    (try simp only [Act.put, List.setIfInBounds_toArray, List.set_cons_zero, List.set_cons_succ])
    refine wpAnyH_ready (rs := [1]) (by kernel_rfl) (by simp) ?_
    refine AllReadyH.cons rfl (fun K hK => ?_) AllReadyH.nil
    go_simp
    refine (HQ'.out _ z0.2.2.1).mono ?_
    rintro e w2 ⟨v, rfl, r2, b2⟩
    obtain ⟨Aq, cq, rfl, hq, -, lq, -, -⟩ := r2.slice iQ.out
    rw [hql] at hq lq ⊢
    have z2 := hSof.out _ _ z0 b2
    replace hq := Lib.hid hq
    clear r2 b2
    go_wp2_with fail
    refine hK.out _ _ z2 (fun hHeld => ?_)
    clear hK K
    (try simp only [Act.put, List.setIfInBounds_toArray, List.set_cons_zero, List.set_cons_succ])
    refine wpAnyH_ready (rs := [7]) (by kernel_rfl) (by simp) ?_
    refine AllReadyH.cons rfl (fun K hK => ?_) AllReadyH.nil
    go_simp
    have HS := SShare_any Aq n cq S part least q w2 (by omega) lq p1 p2 m1 m2 q1 q2 hq
    rw [e1.out] at HS
    replace HS := Lib.hid HS
    refine HS.out.mono ?_
    rintro e w5 ⟨v5, rfl, r5, b5⟩
    have z5 := hSof.out _ _ z2 b5
    have z5b := Lib.hid z2.2.2.2
    clear HS b5 hq
    go_wp2_with fail
    refine hK.out _ _ z5 (fun hHeld => ?_)
    clear hK K
    (try simp only [Act.put, List.setIfInBounds_toArray, List.set_cons_zero, List.set_cons_succ])
    refine wpAnyH_take (i := 8) (v := v5) rfl (by kernel_rfl) (by kernel_rfl) (by kernel_rfl) (fun _ _ _ h => h) (Or.inl ⟨by kernel_rfl, fun W hSw => ?_⟩) (by assumption) ?_
    · (try dsimp only at hSw)
      go_simp
    (try simp only [Act.put, List.setIfInBounds_toArray, List.set_cons_zero, List.set_cons_succ])
    refine wpAnyH_done (by kernel_rfl) ?_ _
    (try simp only [List.getElem_toArray, List.getElem_cons_succ, List.getElem_cons_zero, Act.put, List.setIfInBounds_toArray, List.set_cons_zero, List.set_cons_succ])
    replace r5 := Lib.hid (r5.base z5b.out)
    have B5 := Lib.hid z5.2.2.1
    clear z5 hHeld
    go_wp2_with fail
    go_ret
    exact ⟨_, rfl, by rw [epb.out]; exact r5.out, by rw [epb.out]; exact B5.out⟩
  have n3' : (rule == 3) = false := beq_eq_false_iff_ne.2 h3
  have m3' : decide (rule = 3) = false := decide_eq_false h3
  have e1 := Lib.hid (hX4.out h1 h2 h3)
  clear hX1 hX2 hX3 hX4
  go_enter Try.func9, Try.ntmps9
  go_wp2_with fail
  rw [eW0.out]
  clear a6 eW0
  go_ret
  exact ⟨_, rfl, by rw [← e1.out]; exact row_nil _ _, by rw [epb.out]; exact hB0.out⟩
end Go.Proofs.Ytabogoonbapjiaa

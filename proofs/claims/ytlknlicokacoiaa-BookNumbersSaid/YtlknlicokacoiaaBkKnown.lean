/-
  Contract of the law package: known.
-/
import Derived.Test.YtlknlicokacoiaaBkSame
import Derived.Test.YtlknlicokacoiaaBkNew
import Derived.Laws.StructEq
namespace Go.Proofs.Ytlknlicokacoiaa
open Go.RowKit
set_option linter.unusedVariables false
set_option linter.unusedSimpArgs false

theorem BK.mine {B b : Nat} {G : Nat → Prop} {L : List Or} {w w' : World} (h : BK B b G L w) (o : Only G w w') : Below B w w' :=
  o.below h.size (fun k hk e => by have := (h.lt e).1; omega)
theorem BK.apart {B b g : Nat} {G G' : Nat → Prop} {L L' : List Or} {w w' : World} (h : BK B b G L w) (h' : BK B b G' L' w') (o : Only G w w') : Below B w w' := h.mine o
def NewBK (w : World) (e : Ending) (w' : World) : Prop := ∃ b G, e = .returned (.pointer (some ⟨b, 0, none⟩)) ∧ BK w.heap.size b G [] w' ∧ Below w.heap.size w w'
theorem BNew_any (w : World) : Calls Try.prog 10 #[] w (NewBK w) := by
  refine (BookNew_any w).mono ?_
  rintro e w' ⟨b, a, F, V, vs, c, rfl, h1, h2, h3, h4, h5⟩
  exact ⟨b, _, rfl, ⟨a, F, V, vs, c, h1, h2, h3, h4, rfl⟩, h5⟩
def KL1 : List Or := [⟨1, 1, 5, 10, true⟩]
def KL2 : List Or := [⟨2, 1, 6, 10, true⟩, ⟨1, 1, 5, 10, false⟩]
def KL3 : List Or := [⟨2, 1, 6, 10, true⟩, ⟨3, 1, 6, 10, false⟩, ⟨1, 1, 5, 10, false⟩]
theorem kl1 : addO [] 1 1 5 10 = (0, KL1) := by kernel_rfl
theorem kl2 : addO KL1 2 1 6 10 = (0, KL2) := by kernel_rfl
theorem kl3 : addO KL2 3 1 6 10 = (0, KL3) := by kernel_rfl
theorem klb : bestO KL3 1 = (⟨6, 20, 2⟩, true) := by kernel_rfl
theorem i64_low {x : Int} (h1 : -1000000000 ≤ x) (h2 : x ≤ 1000000000) : I64 x := ⟨by omega, by omega⟩
theorem build_lvl (p n c : Int) : ∀ W : World, (Instr.build 47 #[(0, .int .i64 p), (1, .int .i64 n), (2, .int .i64 c)]).run Try.prog W = .ok (.agg #[.int .i64 p, .int .i64 n, .int .i64 c]) W := fun W => by kernel_rfl
set_option maxRecDepth 100000 in
set_option maxHeartbeats 2000000 in
theorem BKnown_any (w : World) :
    Calls Try.prog 15 #[] w fun e w' => e = .returned (.bool true) ∧ Below w.heap.size w w' := by
  have HN := Lib.hid (BNew_any w)
  have HP1 := fun (B b : Nat) (G : Nat → Prop) (W : World) (h : BK B b G [] W) => BAdd_any B b G [] 1 1 5 10 W (Lib.hid h) (Lib.hid (i64_low (by omega) (by omega))) (Lib.hid (i64_low (by omega) (by omega)))
  rw [kl1] at HP1
  have HP2 := fun (B b : Nat) (G : Nat → Prop) (W : World) (h : BK B b G KL1 W) => BAdd_any B b G KL1 2 1 6 10 W (Lib.hid h) (Lib.hid (i64_low (by omega) (by omega))) (Lib.hid (i64_low (by omega) (by omega)))
  rw [kl2] at HP2
  have HP3 := fun (B b : Nat) (G : Nat → Prop) (W : World) (h : BK B b G KL2 W) => BAdd_any B b G KL2 3 1 6 10 W (Lib.hid h) (Lib.hid (i64_low (by omega) (by omega))) (Lib.hid (i64_low (by omega) (by omega)))
  rw [kl3] at HP3
  have HO := fun (B b : Nat) (G : Nat → Prop) (W : World) (h : BK B b G KL3 W) => BOrders_any B b G KL3 W (Lib.hid h)
  have HB := fun (B b : Nat) (G : Nat → Prop) (W : World) (h : BK B b G KL3 W) => BBest_any B b G KL3 1 W (Lib.hid h)
  rw [klb] at HB
  simp only [Lv.val, Lv.cells] at HB
  replace HP1 := Lib.hid HP1
  replace HP2 := Lib.hid HP2
  replace HP3 := Lib.hid HP3
  replace HO := Lib.hid HO
  replace HB := Lib.hid HB
  obtain ⟨B, eB⟩ : ∃ B, w.heap.size = B := ⟨_, rfl⟩
  unfold NewBK at HN
  rw [eB] at HN ⊢
  replace eB := Lib.hid eB
  go_enter Try.func15, Try.ntmps15
  go_wp2_with fail
  refine HN.out.mono ?_
  rintro e w1 ⟨b, G, rfl, a1, b1⟩
  replace a1 := Lib.hid a1
  replace b1 := Lib.hid b1
  go_wp2_with fail
  refine (HP1.out B b G w1 a1.out).mono ?_
  rintro e w2 ⟨G2, rfl, a2, o2, n2⟩
  have b2 := Lib.hid (b1.out.trans (a1.out.mine o2))
  replace a2 := Lib.hid a2
  clear a1 o2 n2 b1
  go_wp2_with fail
  refine (HP2.out B b G2 w2 a2.out).mono ?_
  rintro e w3 ⟨G3, rfl, a3, o3, n3⟩
  have b3 := Lib.hid (b2.out.trans (a2.out.mine o3))
  replace a3 := Lib.hid a3
  clear a2 o3 n3 b2
  go_wp2_with fail
  refine (HP3.out B b G3 w3 a3.out).mono ?_
  rintro e w4 ⟨G4, rfl, a4, o4, n4⟩
  have b4 := Lib.hid (b3.out.trans (a3.out.mine o4))
  replace a4 := Lib.hid a4
  clear a3 o4 n4 b3
  go_wp2_with fail
  refine (HO.out B b G4 w4 a4.out).mono ?_
  rintro e w5 ⟨v5, rfl, O5, b5⟩
  have a5 := Lib.hid (a4.out.below b5)
  have b5' := Lib.hid (b4.out.trans (b5.mono a4.out.size))
  replace O5 := Lib.hid O5
  clear a4 b4 b5
  go_wp2_with fail
  refine (HB.out B b G4 w5 a5.out).mono ?_
  rintro e w6 ⟨rfl, b6⟩
  have O6 := O5.out.below b6
  have b6' := Lib.hid (b5'.out.trans (b6.mono a5.out.size))
  obtain ⟨A, cap, rfl, hv, hc1, hc2, -, hoff⟩ := O6.slice
  have W7b : ∀ X : World, X = w6.alloc (.cells #[.int .i64 6, .int .i64 20, .int .i64 2] 47) → Below w6.heap.size w6 X := fun X e => by rw [e]; exact (Below.refl _ w6).alloc (Nat.le_refl _) _
  obtain ⟨W7, eW7⟩ : ∃ X, w6.alloc (.cells #[.int .i64 6, .int .i64 20, .int .i64 2] 47) = X := ⟨_, rfl⟩
  have hb7 := W7b W7 eW7.symm
  have hv7 := hv.below hb7
  have h7 : W7.heap[w6.heap.size]? = some (.cells #[.int .i64 6, .int .i64 20, .int .i64 2] 47 (0, 0)) := by rw [← eW7]; exact heap_alloc_new w6 _
  have b7 := Lib.hid (b6'.out.trans (hb7.mono (by have := b6'.out.size; have := eB.out; omega)))
  obtain ⟨q0, q1, q2⟩ : W7.cell? ⟨w6.heap.size, 0, none⟩ = some (.int .i64 6) ∧ W7.cell? ⟨w6.heap.size, 1, none⟩ = some (.int .i64 20) ∧ W7.cell? ⟨w6.heap.size, 2, none⟩ = some (.int .i64 2) := ⟨(row3 h7).1.1, (row3 h7).1.2.1, (row3 h7).1.2.2⟩
  obtain ⟨ob, off, rfl, c0, -, -, -, c4⟩ := hv7.atO (j := 0) (x := ⟨2, 1, 6, 10, true⟩) rfl
  obtain ⟨ob', off', e', -, -, -, -, d4⟩ := hv7.atO (j := 1) (x := ⟨3, 1, 6, 10, false⟩) rfl
  injection e' with e'; injection e' with e1 e2; subst e1; subst e2
  obtain ⟨ob', off', e', -, -, -, -, f4⟩ := hv7.atO (j := 2) (x := ⟨1, 1, 5, 10, false⟩) rfl
  injection e' with e'; injection e' with e1 e2; subst e1; subst e2
  have hof : off = 0 := (hoff _ rfl).1
  subst hof
  clear hoff
  have hlen : KL3.length = 3 := rfl
  rw [hlen] at hc1
  have hq := lv_eql_self 6 20 2
  have hbl := build_lvl 6 20 2
  simp only [Nat.zero_mul, Nat.one_mul, Nat.zero_add, Nat.reduceMul, Nat.reduceAdd] at c0 c4 d4 f4
  replace hv := Lib.hid hv
  replace hv7 := Lib.hid hv7
  replace O6 := Lib.hid O6
  replace hb7 := Lib.hid hb7
  replace h7 := Lib.hid h7
  clear W7b a5 O5 b5' b6 b6'
  go_upto_region 9 with (fail)
  (try rw [eW7])
  go_wp2_with fail
  go_ret
  exact ⟨rfl, b7.out⟩
end Go.Proofs.Ytlknlicokacoiaa

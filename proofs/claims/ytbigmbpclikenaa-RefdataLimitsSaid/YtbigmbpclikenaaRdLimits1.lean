/-
  The walk of the law RefdataLimits: at most six months are given.
-/
import Derived.Test.YtbigmbpclikenaaRdLimitFacts
import Derived.Test.YtbigmbpclikenaaRdTurned
import Derived.Test.YtbigmbpclikenaaRdKnown
import Derived.Test.YtbigmbpclikenaaKeepThree
import Derived.Deep.RegionHeld3
import Derived.Deep.Cut
import Derived.Deep.QuietTactic
import Derived.BigQuiet
namespace Go.Proofs.Ytbigmbpclikenaa
open Go.RowKit
set_option linter.unusedVariables false
set_option linter.unusedSimpArgs false

theorem push1 {w0 wr w1 : World} {B base lb : Nat} {t e1 e2 : TypeId} {cs : Array Value} {v1 v2 : Value} {n2 m : Nat} {x2 x1' : List Value} {g cap : Nat} (f : Nat)
    (hb : wr.heap[lb]? = some (.cells cs t (0, 0))) (HB : Below B w0 wr) (hBl : B ≤ lb) (hlb : lb < base) (hsz : base ≤ wr.heap.size)
    (own1 : ∀ k, v1.ownBlock = some k → base ≤ k) (R2 : wr.ownsRow base e2 1 v2 n2 x2) (hs : ∀ k, v1.ownBlock = some k → v2.ownBlock ≠ some k)
    (h1 : w1.ownsRow base e1 1 (.slice (some ⟨g, 0, none⟩) m cap) m x1') (hg : wr.grownBy w1 v1.ownBlock) (hat : v1.ownBlock = some g ∨ g = wr.heap.size) :
    (w1.cell? ⟨lb, f, none⟩ = cs[f]? ∧ w1.frozen? ⟨lb, f, none⟩ = false) ∧
    ((w1.setCell ⟨lb, f, none⟩ (.slice (some ⟨g, 0, none⟩) m cap)).heap[lb]? = some (.cells (cs.setIfInBounds f (.slice (some ⟨g, 0, none⟩) m cap)) t (0, 0))) ∧
    Below B w0 (w1.setCell ⟨lb, f, none⟩ (.slice (some ⟨g, 0, none⟩) m cap)) ∧
    (w1.setCell ⟨lb, f, none⟩ (.slice (some ⟨g, 0, none⟩) m cap)).ownsRow base e1 1 (.slice (some ⟨g, 0, none⟩) m cap) m x1' ∧
    (w1.setCell ⟨lb, f, none⟩ (.slice (some ⟨g, 0, none⟩) m cap)).ownsRow base e2 1 v2 n2 x2 ∧
    v2.ownBlock ≠ some g ∧ base ≤ (w1.setCell ⟨lb, f, none⟩ (.slice (some ⟨g, 0, none⟩) m cap)).heap.size := by
  have keep : ∀ k, k < base → w1.heap[k]? = wr.heap[k]? := fun k hk => hg.block k (by omega) (fun e => by have := own1 k e.symm; omega)
  have hb1 := (keep lb hlb).trans hb
  have HB1 : Below B w0 w1 := HB.grown hg (by omega) (fun k hk => by have := own1 k hk; omega)
  have hsz1 : base ≤ w1.heap.size := by have := hg.size; omega
  have hne : v2.ownBlock ≠ some g := by
    rcases hat with e | e
    · exact hs g e
    · intro e2
      have := (World.ownsRow.lt R2 g e2).2
      omega
  have R21 : w1.ownsRow base e2 1 v2 n2 x2 := R2.kept hg (by
    cases hv : v1.ownBlock with
    | none =>
      cases hv2 : v2.ownBlock with
      | none => exact .inl rfl
      | some k => exact .inr (fun e => by cases e)
    | some k => exact .inr (hs k hv))
  refine ⟨⟨cell_of_row w1 lb f _ t _ hb1, frozen_of_row w1 lb f _ t hb1⟩, heap_setCell_same w1 lb f _ t _ hb1, HB1.setCell (show B ≤ lb from hBl) _, ownsRow_setCell_below h1 (show lb < base from hlb) _, ownsRow_setCell_below R21 (show lb < base from hlb) _, hne, ?_⟩
  rw [show (w1.setCell ⟨lb, f, none⟩ (.slice (some ⟨g, 0, none⟩) m cap)).heap.size = w1.heap.size from by simp [World.setCell]]; exact hsz1
set_option maxRecDepth 100000 in
set_option maxHeartbeats 1600000 in
theorem Limits_a (A : Option Addr) (n0 c0 n : Nat) (Q : Nat → Int) (tick low wide : Int) (w : World) (hA : Hid (Nums w A n0 Q)) (hl0 : n0 ≤ c0) (hm0 : c0 ≤ 9223372036854775807) (hn6 : n ≤ 6) (hn0 : n ≤ n0) (hx : n = n0) (ht : I64 tick) (hlw : I64 low) (hwd : I64 wide) :
    Calls Try.prog 8 #[.slice A n0 c0, .int .i64 tick, .int .i64 low, .int .i64 wide] w fun e w' => e = .returned (.bool true) ∧ Below w.heap.size w w' := by
  obtain ⟨i0, hi0, hz0, hz1, hz2⟩ := info_parts info_i
  obtain ⟨i1, hi1, hy0, hy1, hy2⟩ := info_parts info_l
  obtain ⟨kt, ekt⟩ : ∃ k, withinN tick 999 = k := ⟨_, rfl⟩
  obtain ⟨kl, ekl⟩ : ∃ k, withinN low 900 = k := ⟨_, rfl⟩
  obtain ⟨kw, ekw⟩ : ∃ k, withinN wide 90 = k := ⟨_, rfl⟩
  have bt := withinN_le tick 999
  have bl := withinN_le low 900
  have bw := withinN_le wide 90
  rw [ekt] at bt
  rw [ekl] at bl
  rw [ekw] at bw
  have HWt : Hid (∀ W, Calls Try.prog 19 #[.int .i64 tick, .int .i64 0, .int .i64 999] W fun e w' => e = .returned (.int .i64 kt) ∧ w' = W) := Lib.hid (fun W => by rw [← ekt]; exact Within_any tick 999 W (by omega) ht.1 ht.2)
  have HWl : Hid (∀ W, Calls Try.prog 19 #[.int .i64 low, .int .i64 0, .int .i64 900] W fun e w' => e = .returned (.int .i64 kl) ∧ w' = W) := Lib.hid (fun W => by rw [← ekl]; exact Within_any low 900 W (by omega) hlw.1 hlw.2)
  have HWw : Hid (∀ W, Calls Try.prog 19 #[.int .i64 wide, .int .i64 0, .int .i64 90] W fun e w' => e = .returned (.int .i64 kw) ∧ w' = W) := Lib.hid (fun W => by rw [← ekw]; exact Within_any wide 90 W (by omega) hwd.1 hwd.2)
  have HWm : Hid (∀ i, i < n0 → ∀ W, Calls Try.prog 19 #[.int .i64 (Q i), .int .i64 0, .int .i64 190] W fun e w' => e = .returned (.int .i64 (withinN (Q i) 190)) ∧ w' = W) := Lib.hid (fun i hi W => by
    obtain ⟨_, _, _, _, h1, h2⟩ := hA.out i hi
    exact Within_any (Q i) 190 W (by omega) h1 h2)
  have lim := lim_of kt kl kw bt bl bw
  obtain ⟨T, eT⟩ : ∃ T, 1 + (kt : Int) = T := ⟨_, rfl⟩
  obtain ⟨lo, elo⟩ : ∃ x, (1 + (kt : Int)) * -(kl : Int) = x := ⟨_, rfl⟩
  obtain ⟨hg, ehg⟩ : ∃ x, (1 + (kt : Int)) * (1 + (kw : Int)) = x := ⟨_, rfl⟩
  rw [elo, ehg, eT] at lim
  rw [eT] at elo ehg
  have T1 := lim.T1
  have T2 := lim.T2
  have lo1 := lim.b1
  have lo2 := lim.b2
  have hg1 := lim.b3
  have hg2 := lim.b4
  clear ekt ekl ekw ht hlw hwd
  replace elo := Lib.hid elo
  replace ehg := Lib.hid ehg
  replace eT := Lib.hid eT
  replace lim := Lib.hid lim
  have H3 : Hid (∀ W, Calls Try.prog 10 #[.int .i64 3] W fun e w' => ∃ a1 a2 : Nat, e = .returned (.agg #[.string (str [67, 76]), .slice (some ⟨a1, 0, none⟩) 3 3, .int .i64 5, .int .i64 0, .int .i64 1000, .int .i64 200, .int .i64 3, .int .i64 4, .int .i64 2, .int .i64 40, .slice (some ⟨a2, 0, none⟩) 3 3]) ∧ Below W.heap.size W w') := Lib.hid (fun W => (Three_any 3 (by omega) W).mono fun e w' ⟨a1, a2, he, _, _, hb⟩ => ⟨a1, a2, he, hb⟩)
  go_enter Try.func8, Try.ntmps8
  go_wp2_with fail
  refine (H3.out w).mono ?_
  clear H3
  rintro e w1 ⟨a1, a2, rfl, b1⟩
  obtain ⟨mb, emb⟩ : ∃ x, w1.heap.size = x := ⟨_, rfl⟩
  go_upto_region 2 with (fail)
  (try rw [emb])
  obtain ⟨W0, eW0⟩ : ∃ W, w1.alloc (.cells #[.string (str [67, 76]), .slice (some ⟨a1, 0, none⟩) 3 3, .int .i64 5, .int .i64 0, .int .i64 1000, .int .i64 200, .int .i64 3, .int .i64 4, .int .i64 2, .int .i64 40, .slice (some ⟨a2, 0, none⟩) 3 3] 25) = W := ⟨_, rfl⟩
  rw [eW0]
  have H0 : W0.heap[mb]? = some (.cells #[.string (str [67, 76]), .slice (some ⟨a1, 0, none⟩) 3 3, .int .i64 5, .int .i64 0, .int .i64 1000, .int .i64 200, .int .i64 3, .int .i64 4, .int .i64 2, .int .i64 40, .slice (some ⟨a2, 0, none⟩) 3 3] 25 (0, 0)) := by rw [← eW0, ← emb]; exact heap_alloc_new w1 _
  have B0 : Below w.heap.size w W0 := by rw [← eW0]; exact b1.alloc b1.size _
  have S0 : W0.heap.size = mb + 1 := by rw [← eW0, World.size_alloc, emb]
  have hml : w.heap.size ≤ mb := by rw [← emb]; exact b1.size
  clear eW0 b1 emb
  have z1 := frozen_of_row W0 mb 1 _ _ H0
  obtain ⟨k0, k1, k2, k3, k4, k5, k6, k7, k8, k9, k10⟩ := row11 H0
  go_upto_region 3 with (fail)
  obtain ⟨W1, eW⟩ : ∃ X, W0.setCell ⟨mb, 1, none⟩ (.slice none 0 0) = X := ⟨_, rfl⟩
  rw [eW]
  have H1 : W1.heap[mb]? = some (.cells #[.string (str [67, 76]), .slice none 0 0, .int .i64 5, .int .i64 0, .int .i64 1000, .int .i64 200, .int .i64 3, .int .i64 4, .int .i64 2, .int .i64 40, .slice (some ⟨a2, 0, none⟩) 3 3] 25 (0, 0)) := by rw [← eW]; exact heap_setCell_same W0 mb 1 _ _ (.slice none 0 0) H0
  have B1 : Below w.heap.size w W1 := by rw [← eW]; exact B0.setCell (p := ⟨mb, 1, none⟩) hml _
  have S1 : W1.heap.size = mb + 1 := by rw [← eW, show (W0.setCell ⟨mb, 1, none⟩ (.slice none 0 0)).heap.size = W0.heap.size from by simp [World.setCell]]; exact S0
  clear eW z1 k0 k1 k2 k3 k4 k5 k6 k7 k8 k9 k10 H0 B0 S0
  have z10 := frozen_of_row W1 mb 10 _ _ H1
  obtain ⟨k0, k1, k2, k3, k4, k5, k6, k7, k8, k9, k10⟩ := row11 H1
  go_upto_region 4 with (fail)
  obtain ⟨W2, eW⟩ : ∃ X, W1.setCell ⟨mb, 10, none⟩ (.slice none 0 0) = X := ⟨_, rfl⟩
  rw [eW]
  have H2 : W2.heap[mb]? = some (.cells #[.string (str [67, 76]), .slice none 0 0, .int .i64 5, .int .i64 0, .int .i64 1000, .int .i64 200, .int .i64 3, .int .i64 4, .int .i64 2, .int .i64 40, .slice none 0 0] 25 (0, 0)) := by rw [← eW]; exact heap_setCell_same W1 mb 10 _ _ (.slice none 0 0) H1
  have B2 : Below w.heap.size w W2 := by rw [← eW]; exact B1.setCell (p := ⟨mb, 10, none⟩) hml _
  have S2 : W2.heap.size = mb + 1 := by rw [← eW, show (W1.setCell ⟨mb, 10, none⟩ (.slice none 0 0)).heap.size = W1.heap.size from by simp [World.setCell]]; exact S1
  clear eW z10 k0 k1 k2 k3 k4 k5 k6 k7 k8 k9 k10 H1 B1 S1
  obtain ⟨k0, k1, k2, k3, k4, k5, k6, k7, k8, k9, k10⟩ := row11 H2
  replace H2 := Lib.hid H2
  replace B2 := Lib.hid B2
  replace S2 := Lib.hid S2
  go_wp2_with fail
  clear k0 k1 k2 k3 k4 k5 k6 k7 k8 k9 k10
  go_loopw [10, 11] (fun lv iv wr => ∃ (i : Nat) (B1 : Option Addr) (d1 : Nat), iv = .int .i64 i ∧ lv = .int .i64 (lastM Q i) ∧ i ≤ n ∧ Hid (wr.heap[mb]? = some (.cells #[.string (str [67, 76]), .slice B1 i d1, .int .i64 5, .int .i64 0, .int .i64 1000, .int .i64 200, .int .i64 3, .int .i64 4, .int .i64 2, .int .i64 40, .slice none 0 0] 25 (0, 0))) ∧ Hid (Below w.heap.size w wr) ∧
    Hid (wr.ownsRow (mb + 1) 3 1 (.slice B1 i d1) i ((List.range i).map (fun (j : Nat) => Value.int .i64 (lastM Q (j + 1))))) ∧ Hid (mb + 1 ≤ wr.heap.size)) (fun _ iv _ => n - (intOf iv).toNat)
  case atStart => exact ⟨0, none, 0, rfl, rfl, by omega, H2, B2, Lib.hid (World.ownsRow_nil _ _ _ _), Lib.hid (by have := S2.out; omega)⟩
  case round =>
    clear H2 B2 S2
    obtain ⟨i, B1, d1, rfl, rfl, hi, H, HB, R1, hsz⟩ := hrel
    have hm := lastM_in Q i
    by_cases hlt : i < n
    · have e1 : decide ((i : Int) < (n0 : Int)) = true := decide_eq_true (by omega)
      have e2 : decide ((i : Int) < 6) = true := decide_eq_true (by omega)
      have hil : i < n0 := by omega
      have hil2 : (i : Int) < (n0 : Int) := by omega
      obtain ⟨ab, ao, rfl, hc0, -, -⟩ := hA.out i hil
      have hc : wr.cell? ⟨ab, ao + i, none⟩ = some (.int .i64 (Q i)) := (HB.out.cell (p := ⟨ab, ao + i, none⟩) (World.block_lt_of_cell? w _ hc0)).trans hc0
      have HWi := Lib.hid (HWm.out i hil)
      have hv := withinN_le (Q i) 190
      have e3 : Hid (lastM Q (i + 1) = lastM Q i + 1 + (withinN (Q i) 190 : Int)) := Lib.hid rfl
      obtain ⟨v, ev⟩ : ∃ v, withinN (Q i) 190 = v := ⟨_, rfl⟩
      rw [ev] at hv
      replace HWi : Hid (∀ W, Calls Try.prog 19 #[.int .i64 (Q i), .int .i64 0, .int .i64 190] W fun e w' => e = .returned (.int .i64 v) ∧ w' = W) := Lib.hid (by rw [← ev]; exact HWi.out)
      replace e3 : Hid (lastM Q (i + 1) = lastM Q i + 1 + (v : Int)) := Lib.hid (by rw [← ev]; exact e3.out)
      clear ev hc0
      obtain ⟨x, ex⟩ : ∃ x, lastM Q i = x := ⟨_, rfl⟩
      rw [ex] at hm e3 ⊢
      replace ex := Lib.hid ex
      have hsz0 := hsz.out
      obtain ⟨k0, k1, k2, k3, k4, k5, k6, k7, k8, k9, k10⟩ := row11 H.out
      go_wp2_with fail
      refine (HWi.out _).mono ?_
      clear HWi
      rintro e wr ⟨rfl, rfl⟩
      go_wp2_with (at_builtin; refine wpList_append_lies _ rfl (.tmp 37) (.tmp 39) 22 rfl (mb + 1) 3 i0 (.int .i64 0) 1 8 Try.underlying22 hi0 hz0 hz1 hz2 rfl (by decide) (.slice B1 i d1) i _ rfl ((R1.out).alloc _) ⟨wr.heap.size, 0, none⟩ 1 1 [.int .i64 (x + 1 + (v : Int))] rfl rfl (cell_one_new _ _ _) (ints_oneCell .i64 [x + 1 + (v : Int)]) (by omega) (by unfold maxLen; omega) (by omega) (by rw [World.size_alloc]; omega) _ rfl ?_)
      intro g cap w4 hown4 hg4 hat hlt4
      obtain ⟨⟨c4, f4⟩, hl4, HB4, R14, -, -, hsz4⟩ := push1 (e2 := 3) (v2 := .slice none 0 0) (n2 := 0) (x2 := []) 1 ((heap_alloc_old _ _ (World.block_lt_of_cell? _ _ k1)).trans H.out) (HB.out.alloc HB.out.size _) hml (show mb < mb + 1 by omega) (by rw [World.size_alloc]; omega) (fun k hk => (World.ownsRow.lt R1.out k hk).1) (World.ownsRow_nil _ _ _ _) (fun k _ h => by cases h) hown4 hg4 (hat.imp_right (fun e => by rw [World.size_alloc]; exact e))
      have c5 : w4.cell? ⟨mb, 1, none⟩ = some (.slice B1 i d1) := c4
      clear k0 k1 k2 k3 k4 k5 k6 k7 k8 k9 k10 c4 hown4 hg4 hat hlt4 H HB R1 hsz hsz0 hc
      replace hl4 := Lib.hid hl4
      replace HB4 := Lib.hid HB4
      replace hsz4 := Lib.hid hsz4
      rw [show ((List.range i).map (fun (j : Nat) => Value.int .i64 (lastM Q (j + 1)))) ++ [.int .i64 (x + 1 + (v : Int))] = ((List.range (i + 1)).map (fun (j : Nat) => Value.int .i64 (lastM Q (j + 1)))) from by rw [← e3.out]; exact range_snoc (fun (j : Nat) => Value.int .i64 (lastM Q (j + 1))) i] at R14
      replace R14 := Lib.hid R14
      go_wp2_with fail
      go_roundw
      case rel => exact ⟨i + 1, _, _, by go_num, by rw [e3.out], by omega, hl4, HB4, R14, hsz4⟩
      case measure => simp [intOf]; omega
    · have hin : i = n := by omega
      subst hin
      subst hx
      clear hi hn0 hl0
      have e1 : decide ((i : Int) < (i : Int)) = false := decide_eq_false (by omega)
      have H10 := H.out
      have B10 := HB.out
      have S10 := hsz.out
      have R10 := R1.out
      clear H HB hsz R1
      obtain ⟨k0, k1, k2, k3, k4, k5, k6, k7, k8, k9, k10⟩ := row11 H10
      go_wp2_with fail
      refine (HWt.out _).mono ?_
      clear HWt
      rintro e wr ⟨rfl, rfl⟩
      clear k0 k1 k2 k3 k4 k5 k6 k7 k8 k9 k10
      have z2 := frozen_of_row wr mb 2 _ _ H10
      obtain ⟨k0, k1, k2, k3, k4, k5, k6, k7, k8, k9, k10⟩ := row11 H10
      go_upto_region 11 with (fail)
      rw [eT.out]
      obtain ⟨W11, eW⟩ : ∃ X, wr.setCell ⟨mb, 2, none⟩ (.int .i64 T) = X := ⟨_, rfl⟩
      rw [eW]
      have H11 : W11.heap[mb]? = some (.cells #[.string (str [67, 76]), .slice B1 i d1, .int .i64 T, .int .i64 0, .int .i64 1000, .int .i64 200, .int .i64 3, .int .i64 4, .int .i64 2, .int .i64 40, .slice none 0 0] 25 (0, 0)) := by rw [← eW]; exact heap_setCell_same wr mb 2 _ _ (.int .i64 T) H10
      have B11 : Below w.heap.size w W11 := by rw [← eW]; exact B10.setCell (p := ⟨mb, 2, none⟩) hml _
      have S11 : mb + 1 ≤ W11.heap.size := by rw [← eW, show (wr.setCell ⟨mb, 2, none⟩ (.int .i64 T)).heap.size = wr.heap.size from by simp [World.setCell]]; exact S10
      have R11 : W11.ownsRow (mb + 1) 3 1 (.slice B1 i d1) i ((List.range i).map (fun (j : Nat) => Value.int .i64 (lastM Q (j + 1)))) := by rw [← eW]; exact ownsRow_setCell_below R10 (show mb < mb + 1 by omega) _
      clear eW H10 B10 S10 R10 z2 k0 k1 k2 k3 k4 k5 k6 k7 k8 k9 k10
      have q1 : IntKind.i64.wrap (-(kl : Int)) = -(kl : Int) := wrap_in (by omega) (by omega)
      have q2 : IntKind.i64.wrap (T * -(kl : Int)) = lo := by rw [elo.out]; exact wrap_in (by omega) (by omega)
      have q3 : IntKind.i64.wrap (1 + (kw : Int)) = 1 + (kw : Int) := wrap_in (by omega) (by omega)
      have q4 : IntKind.i64.wrap (T * (1 + (kw : Int))) = hg := by rw [ehg.out]; exact wrap_in (by omega) (by omega)
      have q5 : IntKind.i64.wrap (lo + hg) = lo + hg := wrap_in (by omega) (by omega)
      have HD : W11.drew.heap[mb]? = _ := H11
      have zD := frozen_of_row W11.drew mb 3 _ _ HD
      obtain ⟨k0, k1, k2, k3, k4, k5, k6, k7, k8, k9, k10⟩ := row11 HD
      have hw0 : (fun X => X.cell? ⟨mb, 2, none⟩ = some (.int .i64 T)) W11.drew := k2
      have hw1 : ∀ V : Value, (fun X => X.cell? ⟨mb, 2, none⟩ = some (.int .i64 T)) (W11.setCell ⟨mb, 3, none⟩ V).drew := fun V => by
        obtain ⟨j0, j1, j2, j3, j4, j5, j6, j7, j8, j9, j10⟩ := row11 (show (W11.setCell ⟨mb, 3, none⟩ V).drew.heap[mb]? = some (.cells #[.string (str [67, 76]), .slice B1 i d1, .int .i64 T, V, .int .i64 1000, .int .i64 200, .int .i64 3, .int .i64 4, .int .i64 2, .int .i64 40, .slice none 0 0] 25 (0, 0)) from heap_setCell_same W11 mb 3 _ _ V H11)
        exact j2
      replace hw1 := Lib.hid hw1
      simp only at hw0
      clear HD
      go_region_held3 (fun X => X.cell? ⟨mb, 2, none⟩ = some (.int .i64 T)) (first | with_reducible assumption | exact hw0 | exact hw1.out _) ((go_at_call 19; refine (HWl.out _).mono ?_; rintro e w4 ⟨rfl, rfl⟩))
      rename_i hheld
      clear hheld hw0 hw1 zD k0 k1 k2 k3 k4 k5 k6 k7 k8 k9 k10
      (try rw [q1, q2])
      obtain ⟨W12, eW⟩ : ∃ X, (W11.setCell ⟨mb, 3, none⟩ (.int .i64 lo)).drew = X := ⟨_, rfl⟩
      rw [eW]
      have H12 : W12.heap[mb]? = some (.cells #[.string (str [67, 76]), .slice B1 i d1, .int .i64 T, .int .i64 lo, .int .i64 1000, .int .i64 200, .int .i64 3, .int .i64 4, .int .i64 2, .int .i64 40, .slice none 0 0] 25 (0, 0)) := by rw [← eW]; exact heap_setCell_same W11 mb 3 _ _ (.int .i64 lo) H11
      have B12 : Below w.heap.size w W12 := by rw [← eW]; exact (B11.setCell (p := ⟨mb, 3, none⟩) hml _).drew
      have S12 : mb + 1 ≤ W12.heap.size := by rw [← eW]; show mb + 1 ≤ (W11.setCell ⟨mb, 3, none⟩ (.int .i64 lo)).heap.size; rw [show (W11.setCell ⟨mb, 3, none⟩ (.int .i64 lo)).heap.size = W11.heap.size from by simp [World.setCell]]; exact S11
      have R12 : W12.ownsRow (mb + 1) 3 1 (.slice B1 i d1) i ((List.range i).map (fun (j : Nat) => Value.int .i64 (lastM Q (j + 1)))) := by rw [← eW]; exact (ownsRow_setCell_below R11 (show mb < mb + 1 by omega) _).drew
      clear eW H11 B11 S11 R11
      go_upto_region 12 with (fail)
      clear q1 q2 HWl
      have HD : W12.drew.heap[mb]? = _ := H12
      have zD := frozen_of_row W12.drew mb 4 _ _ HD
      obtain ⟨k0, k1, k2, k3, k4, k5, k6, k7, k8, k9, k10⟩ := row11 HD
      have hw0 : (fun X => X.cell? ⟨mb, 3, none⟩ = some (.int .i64 lo) ∧ X.cell? ⟨mb, 2, none⟩ = some (.int .i64 T)) W12.drew := ⟨k3, k2⟩
      have hw1 : ∀ V : Value, (fun X => X.cell? ⟨mb, 3, none⟩ = some (.int .i64 lo) ∧ X.cell? ⟨mb, 2, none⟩ = some (.int .i64 T)) (W12.setCell ⟨mb, 4, none⟩ V).drew := fun V => by
        obtain ⟨j0, j1, j2, j3, j4, j5, j6, j7, j8, j9, j10⟩ := row11 (show (W12.setCell ⟨mb, 4, none⟩ V).drew.heap[mb]? = some (.cells #[.string (str [67, 76]), .slice B1 i d1, .int .i64 T, .int .i64 lo, V, .int .i64 200, .int .i64 3, .int .i64 4, .int .i64 2, .int .i64 40, .slice none 0 0] 25 (0, 0)) from heap_setCell_same W12 mb 4 _ _ V H12)
        exact ⟨j3, j2⟩
      replace hw1 := Lib.hid hw1
      simp only at hw0
      clear HD
      go_region_held3 (fun X => X.cell? ⟨mb, 3, none⟩ = some (.int .i64 lo) ∧ X.cell? ⟨mb, 2, none⟩ = some (.int .i64 T)) (first | with_reducible assumption | exact hw0 | exact hw1.out _) ((go_at_call 19; refine (HWw.out _).mono ?_; rintro e w4 ⟨rfl, rfl⟩))
      rename_i hheld
      clear hheld hw0 hw1 zD k0 k1 k2 k3 k4 k5 k6 k7 k8 k9 k10
      (try rw [q3, q4, q5])
      obtain ⟨W13, eW⟩ : ∃ X, (W12.setCell ⟨mb, 4, none⟩ (.int .i64 (lo + hg))).drew = X := ⟨_, rfl⟩
      rw [eW]
      have H13 : W13.heap[mb]? = some (.cells #[.string (str [67, 76]), .slice B1 i d1, .int .i64 T, .int .i64 lo, .int .i64 (lo + hg), .int .i64 200, .int .i64 3, .int .i64 4, .int .i64 2, .int .i64 40, .slice none 0 0] 25 (0, 0)) := by rw [← eW]; exact heap_setCell_same W12 mb 4 _ _ (.int .i64 (lo + hg)) H12
      have B13 : Below w.heap.size w W13 := by rw [← eW]; exact (B12.setCell (p := ⟨mb, 4, none⟩) hml _).drew
      have S13 : mb + 1 ≤ W13.heap.size := by rw [← eW]; show mb + 1 ≤ (W12.setCell ⟨mb, 4, none⟩ (.int .i64 (lo + hg))).heap.size; rw [show (W12.setCell ⟨mb, 4, none⟩ (.int .i64 (lo + hg))).heap.size = W12.heap.size from by simp [World.setCell]]; exact S12
      have R13 : W13.ownsRow (mb + 1) 3 1 (.slice B1 i d1) i ((List.range i).map (fun (j : Nat) => Value.int .i64 (lastM Q (j + 1)))) := by rw [← eW]; exact (ownsRow_setCell_below R12 (show mb < mb + 1 by omega) _).drew
      clear eW H12 B12 S12 R12
      clear q3 q4 q5 HWw
      have q6 : lo + hg - lo = hg := by omega
      have z5 := frozen_of_row W13 mb 5 _ _ H13
      obtain ⟨k0, k1, k2, k3, k4, k5, k6, k7, k8, k9, k10⟩ := row11 H13
      go_upto_region 14 with (fail)
      obtain ⟨W14, eW⟩ : ∃ X, W13.setCell ⟨mb, 5, none⟩ (.int .i64 hg) = X := ⟨_, rfl⟩
      rw [eW]
      have H14 : W14.heap[mb]? = some (.cells #[.string (str [67, 76]), .slice B1 i d1, .int .i64 T, .int .i64 lo, .int .i64 (lo + hg), .int .i64 hg, .int .i64 3, .int .i64 4, .int .i64 2, .int .i64 40, .slice none 0 0] 25 (0, 0)) := by rw [← eW]; exact heap_setCell_same W13 mb 5 _ _ (.int .i64 hg) H13
      have B14 : Below w.heap.size w W14 := by rw [← eW]; exact B13.setCell (p := ⟨mb, 5, none⟩) hml _
      have S14 : mb + 1 ≤ W14.heap.size := by rw [← eW, show (W13.setCell ⟨mb, 5, none⟩ (.int .i64 hg)).heap.size = W13.heap.size from by simp [World.setCell]]; exact S13
      have R14 : W14.ownsRow (mb + 1) 3 1 (.slice B1 i d1) i ((List.range i).map (fun (j : Nat) => Value.int .i64 (lastM Q (j + 1)))) := by rw [← eW]; exact ownsRow_setCell_below R13 (show mb < mb + 1 by omega) _
      clear eW H13 B13 S13 R13 z5 k0 k1 k2 k3 k4 k5 k6 k7 k8 k9 k10
      replace H14 := Lib.hid H14
      replace B14 := Lib.hid B14
      replace S14 := Lib.hid S14
      replace R14 := Lib.hid R14
      obtain ⟨k0, k1, k2, k3, k4, k5, k6, k7, k8, k9, k10⟩ := row11 H14.out
      go_wp2_with fail
      clear k0 k1 k2 k3 k4 k5 k6 k7 k8 k9 k10
      go_loopw [12] (fun jv wr => ∃ (j : Nat) (B2 : Option Addr) (d2 : Nat), jv = .int .i64 j ∧ j ≤ i ∧ Hid (wr.heap[mb]? = some (.cells #[.string (str [67, 76]), .slice B1 i d1, .int .i64 T, .int .i64 lo, .int .i64 (lo + hg), .int .i64 hg, .int .i64 3, .int .i64 4, .int .i64 2, .int .i64 40, .slice B2 j d2] 25 (0, 0))) ∧ Hid (Below w.heap.size w wr) ∧
        Hid (wr.ownsRow (mb + 1) 3 1 (.slice B1 i d1) i ((List.range i).map (fun (j : Nat) => Value.int .i64 (lastM Q (j + 1))))) ∧ Hid (wr.ownsRow (mb + 1) 2 1 (.slice B2 j d2) j ((List.range j).map (fun (_ : Nat) => Value.int .i64 lo))) ∧ Hid (∀ k, Value.ownBlock (.slice B2 j d2) = some k → Value.ownBlock (.slice B1 i d1) ≠ some k) ∧ Hid (mb + 1 ≤ wr.heap.size)) (fun jv _ => i - (intOf jv).toNat)
      case atStart => exact ⟨0, none, 0, rfl, by omega, H14, B14, R14, Lib.hid (World.ownsRow_nil _ _ _ _), Lib.hid (fun k h => by cases h), S14⟩
      case round =>
        clear H14 B14 S14 R14
        obtain ⟨j, B2, d2, rfl, hj, H, HB, R1, R2, hs, hsz⟩ := hrel
        by_cases hlt : j < i
        · have e1 : decide ((j : Int) < (i : Int)) = true := decide_eq_true (by omega)
          have hil : (j : Int) < (i : Int) := by omega
          have hsz0 := hsz.out
          obtain ⟨k0, k1, k2, k3, k4, k5, k6, k7, k8, k9, k10⟩ := row11 H.out
          go_wp2_with (at_builtin; refine wpList_append_lies _ rfl (.tmp 77) (.tmp 80) 23 rfl (mb + 1) 2 i1 (.int .i64 0) 1 8 Try.underlying23 hi1 hy0 hy1 hy2 rfl (by decide) (.slice B2 j d2) j _ rfl ((R2.out).alloc _) ⟨wr.heap.size, 0, none⟩ 1 1 [.int .i64 lo] rfl rfl (cell_one_new _ _ _) (ints_oneCell .i64 [lo]) (by omega) (by unfold maxLen; omega) (by omega) (by rw [World.size_alloc]; omega) _ rfl ?_)
          intro g cap w4 hown4 hg4 hat hlt4
          obtain ⟨⟨c4, f4⟩, hl4, HB4, R24, R14, hne4, hsz4⟩ := push1 10 ((heap_alloc_old _ _ (World.block_lt_of_cell? _ _ k1)).trans H.out) (HB.out.alloc HB.out.size _) hml (show mb < mb + 1 by omega) (by rw [World.size_alloc]; omega) (fun k hk => (World.ownsRow.lt R2.out k hk).1) (R1.out.alloc _) hs.out hown4 hg4 (hat.imp_right (fun e => by rw [World.size_alloc]; exact e))
          have c5 : w4.cell? ⟨mb, 10, none⟩ = some (.slice B2 j d2) := c4
          clear k0 k1 k2 k3 k4 k5 k6 k7 k8 k9 k10 c4 hown4 hg4 hat hlt4 H HB R1 R2 hs hsz hsz0
          replace hl4 := Lib.hid hl4
          replace HB4 := Lib.hid HB4
          replace hsz4 := Lib.hid hsz4
          rw [show ((List.range j).map (fun (_ : Nat) => Value.int .i64 lo)) ++ [.int .i64 lo] = ((List.range (j + 1)).map (fun (_ : Nat) => Value.int .i64 lo)) from range_snoc (fun (_ : Nat) => Value.int .i64 lo) j] at R24
          replace R24 := Lib.hid R24
          replace R14 := Lib.hid R14
          go_wp2_with fail
          go_roundw
          case rel => exact ⟨j + 1, _, _, by go_num, by omega, hl4, HB4, R14, R24, Lib.hid (fun k (hk : some g = some k) e => hne4 (e.trans hk.symm)), hsz4⟩
          case measure => simp [intOf]; omega
        · have hjn : j = i := by omega
          subst hjn
          have e1 : decide ((j : Int) < (j : Int)) = false := decide_eq_false (by omega)
          clear hj hlt
          obtain ⟨k0, k1, k2, k3, k4, k5, k6, k7, k8, k9, k10⟩ := row11 H.out
          have cp1 := own_cap R1.out
          have cp2 := own_cap R2.out
          have NM : Nums wr B1 j (fun k => lastM Q (k + 1)) := nums_own (N := fun k => lastM Q (k + 1)) R1.out (fun k hk => by have := lastM_in Q (k + 1); exact ⟨by omega, by omega⟩)
          have NS : Nums wr B2 j (fun _ => lo) := nums_own (N := fun _ => lo) R2.out (fun k hk => ⟨by omega, by omega⟩)
          have hok : Hid (∀ wd, I64 wd → (limP B1 d1 B2 d2 j Q T lo hg wd (fun _ => lo)).Ok wr) := Lib.hid (fun wd hw => ⟨NM, NS, by show [67, 76].length ≤ _; simp, cp1.1, cp1.2, cp2.1, cp2.2, ⟨by show _ ≤ T; omega, by show T ≤ _; omega⟩, ⟨by show _ ≤ lo; omega, by show lo ≤ _; omega⟩, ⟨by show _ ≤ lo + hg; omega, by show lo + hg ≤ _; omega⟩, hw, ⟨by show _ ≤ (3 : Int); omega, by show (3 : Int) ≤ _; omega⟩, ⟨by show _ ≤ (4 : Int); omega, by show (4 : Int) ≤ _; omega⟩, ⟨by show _ ≤ (2 : Int); omega, by show (2 : Int) ≤ _; omega⟩, ⟨by show _ ≤ (40 : Int); omega, by show (40 : Int) ≤ _; omega⟩⟩)
          have hmq : mb < wr.heap.size := (Array.getElem?_eq_some_iff.1 H.out).1
          by_cases hfew : j < 2
          · have HC : Hid (∀ W, Below wr.heap.size wr W → Calls Try.prog 13 #[.agg #[.string (str [67, 76]), .slice B1 j d1, .int .i64 T, .int .i64 lo, .int .i64 (lo + hg), .int .i64 hg, .int .i64 3, .int .i64 4, .int .i64 2, .int .i64 40, .slice B2 j d2]] W fun e w' => e = .returned (.int .i64 1) ∧ Below W.heap.size W w') := Lib.hid (fun W g => by
              have := PCheck_any (limP B1 d1 B2 d2 j Q T lo hg hg (fun _ => lo)) W (Lib.hid ((hok.out hg ⟨by omega, by omega⟩).below g))
              rw [lim_few _ _ _ _ _ _ _ _ _ _ _ hfew] at this; exact this)
            have x1 : decide ((j : Int) < 2) = true := decide_eq_true (by omega)
            have x2 : (j : Int) < 2 := by omega
            clear hok NM NS
            go_wp2_with fail
            refine (HC.out wr (Below.refl _ wr)).mono ?_
            rintro e u1 ⟨rfl, b1⟩
            go_wp2_with fail
            refine (Known_any u1).mono ?_
            rintro e u2 ⟨rfl, b2⟩
            go_wp2_with fail
            go_ret
            exact ⟨rfl, (HB.out.trans (b1.mono HB.out.size)).trans (b2.mono (HB.out.trans (b1.mono HB.out.size)).size)⟩
          · have hj2 : 2 ≤ j := by omega
            have HC : Hid (∀ W, Below wr.heap.size wr W → Calls Try.prog 13 #[.agg #[.string (str [67, 76]), .slice B1 j d1, .int .i64 T, .int .i64 lo, .int .i64 (lo + hg), .int .i64 hg, .int .i64 3, .int .i64 4, .int .i64 2, .int .i64 40, .slice B2 j d2]] W fun e w' => e = .returned (.int .i64 0) ∧ Below W.heap.size W w') := Lib.hid (fun W g => by
              have := PCheck_any (limP B1 d1 B2 d2 j Q T lo hg hg (fun _ => lo)) W (Lib.hid ((hok.out hg ⟨by omega, by omega⟩).below g))
              rw [lim_ok _ _ _ _ _ _ _ _ _ hj2 hn6 lim.out] at this; exact this)
            have HCq : Hid (∀ W, Below wr.heap.size wr W → Calls Try.prog 13 #[.agg #[.string (str [67, 76]), .slice B1 j d1, .int .i64 T, .int .i64 lo, .int .i64 (lo + hg), .int .i64 (hg + T), .int .i64 3, .int .i64 4, .int .i64 2, .int .i64 40, .slice B2 j d2]] W fun e w' => e = .returned (.int .i64 23) ∧ Below W.heap.size W w') := Lib.hid (fun W g => by
              have := PCheck_any (limP B1 d1 B2 d2 j Q T lo hg (hg + T) (fun _ => lo)) W (Lib.hid ((hok.out (hg + T) ⟨by omega, by omega⟩).below g))
              rw [lim_wide _ _ _ _ _ _ _ _ _ hj2 hn6 lim.out] at this; exact this)
            have HNq : Hid (∀ W, Below wr.heap.size wr W → Calls Try.prog 21 #[.agg #[.string (str [67, 76]), .slice B1 j d1, .int .i64 T, .int .i64 lo, .int .i64 (lo + hg), .int .i64 (hg + T), .int .i64 3, .int .i64 4, .int .i64 2, .int .i64 40, .slice B2 j d2]] W fun e w' => e = .returned (.int .i64 0) ∧ Below W.heap.size W w') := Lib.hid (fun W g => by
              have := PCount_any (limP B1 d1 B2 d2 j Q T lo hg (hg + T) (fun _ => lo)) W (Lib.hid ((hok.out (hg + T) ⟨by omega, by omega⟩).below g))
              rw [show cntL (limP B1 d1 B2 d2 j Q T lo hg (hg + T) (fun _ => lo)) = 0 from by unfold cntL; rw [lim_wide _ _ _ _ _ _ _ _ _ hj2 hn6 lim.out]; rfl] at this; exact this)
            have x1 : decide ((j : Int) < 2) = false := decide_eq_false (by omega)
            have x2 : ¬ (j : Int) < 2 := by omega
            replace NM := Lib.hid NM
            replace NS := Lib.hid NS
            clear hok
            go_wp2_with fail
            refine (HC.out wr (Below.refl _ wr)).mono ?_
            clear HC
            rintro e u1 ⟨rfl, b1⟩
            have H1 : u1.heap[mb]? = some (.cells #[.string (str [67, 76]), .slice B1 j d1, .int .i64 T, .int .i64 lo, .int .i64 (lo + hg), .int .i64 hg, .int .i64 3, .int .i64 4, .int .i64 2, .int .i64 40, .slice B2 j d2] 25 (0, 0)) := (b1.block mb hmq).trans H.out
            clear k0 k1 k2 k3 k4 k5 k6 k7 k8 k9 k10
            obtain ⟨k0, k1, k2, k3, k4, k5, k6, k7, k8, k9, k10⟩ := row11 H1
            obtain ⟨qb, eqb⟩ : ∃ x, u1.heap.size = x := ⟨_, rfl⟩
            go_upto_region 23 with (fail)
            (try rw [eqb])
            obtain ⟨V1, eV⟩ : ∃ W, u1.alloc (.cells #[.string (str [67, 76]), .slice B1 j d1, .int .i64 T, .int .i64 lo, .int .i64 (lo + hg), .int .i64 hg, .int .i64 3, .int .i64 4, .int .i64 2, .int .i64 40, .slice B2 j d2] 25) = W := ⟨_, rfl⟩
            rw [eV]
            have HP1 : V1.heap[mb]? = some (.cells #[.string (str [67, 76]), .slice B1 j d1, .int .i64 T, .int .i64 lo, .int .i64 (lo + hg), .int .i64 hg, .int .i64 3, .int .i64 4, .int .i64 2, .int .i64 40, .slice B2 j d2] 25 (0, 0)) := by rw [← eV]; exact (heap_alloc_old _ _ (Array.getElem?_eq_some_iff.1 H1).1).trans H1
            have HQ1 : V1.heap[qb]? = some (.cells #[.string (str [67, 76]), .slice B1 j d1, .int .i64 T, .int .i64 lo, .int .i64 (lo + hg), .int .i64 hg, .int .i64 3, .int .i64 4, .int .i64 2, .int .i64 40, .slice B2 j d2] 25 (0, 0)) := by rw [← eV, ← eqb]; exact heap_alloc_new u1 _
            have G1 : Below wr.heap.size wr V1 := by rw [← eV]; exact b1.alloc b1.size _
            have hql : wr.heap.size ≤ qb := by rw [← eqb]; exact b1.size
            have Z1 : V1.heap.size = qb + 1 := by rw [← eV, World.size_alloc, eqb]
            clear eV eqb b1 H1 k0 k1 k2 k3 k4 k5 k6 k7 k8 k9 k10
            obtain ⟨k0, k1, k2, k3, k4, k5, k6, k7, k8, k9, k10⟩ := row11 HP1
            obtain ⟨l0, l1, l2, l3, l4, l5, l6, l7, l8, l9, l10⟩ := row11 HQ1
            have zq := frozen_of_row V1 qb 5 _ _ HQ1
            go_upto_region 24 with (fail)
            obtain ⟨V2, eV⟩ : ∃ W, V1.setCell ⟨qb, 5, none⟩ (.int .i64 (hg + T)) = W := ⟨_, rfl⟩
            rw [eV]
            have HQ2 : V2.heap[qb]? = some (.cells #[.string (str [67, 76]), .slice B1 j d1, .int .i64 T, .int .i64 lo, .int .i64 (lo + hg), .int .i64 (hg + T), .int .i64 3, .int .i64 4, .int .i64 2, .int .i64 40, .slice B2 j d2] 25 (0, 0)) := by rw [← eV]; exact heap_setCell_same V1 qb 5 _ _ (.int .i64 (hg + T)) HQ1
            have HP2 : V2.heap[mb]? = some (.cells #[.string (str [67, 76]), .slice B1 j d1, .int .i64 T, .int .i64 lo, .int .i64 (lo + hg), .int .i64 hg, .int .i64 3, .int .i64 4, .int .i64 2, .int .i64 40, .slice B2 j d2] 25 (0, 0)) := by rw [← eV]; exact (heap_setCell_other V1 ⟨qb, 5, none⟩ mb _ (show mb ≠ qb by omega)).trans HP1
            have G2 : Below wr.heap.size wr V2 := by rw [← eV]; exact G1.setCell (p := ⟨qb, 5, none⟩) hql _
            have Z2 : V2.heap.size = qb + 1 := by rw [← eV, ← Z1]; simp [World.setCell]
            clear eV HQ1 HP1 G1 Z1 zq k0 k1 k2 k3 k4 k5 k6 k7 k8 k9 k10 l0 l1 l2 l3 l4 l5 l6 l7 l8 l9 l10
            obtain ⟨k0, k1, k2, k3, k4, k5, k6, k7, k8, k9, k10⟩ := row11 HP2
            obtain ⟨sb, esb⟩ : ∃ x, V2.heap.size = x := ⟨_, rfl⟩
            have hqs : sb = qb + 1 := by rw [← esb, Z2]
            replace hqs := Lib.hid hqs
            clear Z2
            go_upto_region 25 with (fail)
            (try rw [esb])
            obtain ⟨V3, eV⟩ : ∃ W, V2.alloc (.cells #[.string (str [67, 76]), .slice B1 j d1, .int .i64 T, .int .i64 lo, .int .i64 (lo + hg), .int .i64 hg, .int .i64 3, .int .i64 4, .int .i64 2, .int .i64 40, .slice B2 j d2] 25) = W := ⟨_, rfl⟩
            rw [eV]
            have HP3 : V3.heap[mb]? = some (.cells #[.string (str [67, 76]), .slice B1 j d1, .int .i64 T, .int .i64 lo, .int .i64 (lo + hg), .int .i64 hg, .int .i64 3, .int .i64 4, .int .i64 2, .int .i64 40, .slice B2 j d2] 25 (0, 0)) := by rw [← eV]; exact (heap_alloc_old _ _ (Array.getElem?_eq_some_iff.1 HP2).1).trans HP2
            have HQ3 : V3.heap[qb]? = some (.cells #[.string (str [67, 76]), .slice B1 j d1, .int .i64 T, .int .i64 lo, .int .i64 (lo + hg), .int .i64 (hg + T), .int .i64 3, .int .i64 4, .int .i64 2, .int .i64 40, .slice B2 j d2] 25 (0, 0)) := by rw [← eV]; exact (heap_alloc_old _ _ (Array.getElem?_eq_some_iff.1 HQ2).1).trans HQ2
            have HS3 : V3.heap[sb]? = some (.cells #[.string (str [67, 76]), .slice B1 j d1, .int .i64 T, .int .i64 lo, .int .i64 (lo + hg), .int .i64 hg, .int .i64 3, .int .i64 4, .int .i64 2, .int .i64 40, .slice B2 j d2] 25 (0, 0)) := by rw [← eV, ← esb]; exact heap_alloc_new V2 _
            have G3 : Below wr.heap.size wr V3 := by rw [← eV]; exact G2.alloc G2.size _
            have Z3 : sb + 1 ≤ V3.heap.size := by rw [← eV, World.size_alloc, esb]; omega
            have hql2 : qb < sb := by have := hqs.out; omega
            have hsl : wr.heap.size ≤ sb := by omega
            clear eV esb HQ2 HP2 G2 k0 k1 k2 k3 k4 k5 k6 k7 k8 k9 k10
            obtain ⟨k0, k1, k2, k3, k4, k5, k6, k7, k8, k9, k10⟩ := row11 HP3
            have NB := NS.out.below (G3.alloc G3.size (.cells #[] 2))
            obtain ⟨gb, go, rfl, -, -⟩ := NB 0 (by omega)
            have hka : ∀ i : Nat, (V3.alloc (.cells #[] 2)).cell? ⟨mb, i, none⟩ = V3.cell? ⟨mb, i, none⟩ := fun i => World.cell?_of_block (heap_alloc_old V3 _ (show mb < V3.heap.size by omega))
            have ka := (hka 10).trans k10
            clear hka
            go_wp2_with (at_builtin; refine wpList_append_lies _ rfl (.tmp 104) (.tmp 106) 23 rfl (sb + 1) 2 i1 (.int .i64 0) 1 8 Try.underlying23 hi1 hy0 hy1 hy2 rfl (by decide) (.slice (some ⟨V3.heap.size, 0, none⟩) 0 0) 0 [] rfl (World.ownsRow_lit V3 #[] 0 Z3 (by unfold maxLen; omega) rfl) ⟨gb, go, none⟩ j d2 ((List.range j).map (fun (_ : Nat) => Value.int .i64 lo)) rfl (by simp) (nums_news NB) (nums_one (w := V3) (A := none) (nums_I64 NB)) (by omega) (by unfold maxLen; omega) (by omega) (by rw [World.size_alloc]; omega) _ rfl ?_)
            intro g2 e2 w6 hown6 hg6 hat6 hlt6
            obtain ⟨⟨c6, f6⟩, hl6, hq6, HB6, R26, -, -, hsz6⟩ := push2 (e2 := 3) (v1 := .slice (some ⟨V3.heap.size, 0, none⟩) 0 0) (v2 := .slice none 0 0) (n2 := 0) (x2 := []) 10 ((heap_alloc_old _ _ (by omega)).trans HS3) ((heap_alloc_old _ _ (by omega)).trans HQ3) (G3.alloc G3.size _) hsl (show sb < sb + 1 by omega) (show qb < sb + 1 by omega) (by omega) (by rw [World.size_alloc]; omega) (fun k hk => by have hk2 : some V3.heap.size = some k := hk; injection hk2 with hk2; omega) (World.ownsRow_nil _ _ _ _) (fun k _ e => by cases e) hown6 hg6 (hat6.imp id (fun e => by rw [World.size_alloc]; omega))
            have c7 : w6.cell? ⟨sb, 10, none⟩ = some (.slice (some ⟨gb, go, none⟩) j d2) := c6
            clear k0 k1 k2 k3 k4 k5 k6 k7 k8 k9 k10 ka c6 hown6 hg6 hat6 hlt6 NB HP3 HQ3 HS3 G3 Z3
            (try simp only [Nat.zero_add, List.nil_append] at hl6 hq6 HB6 R26 hsz6)
            go_upto_region 26 with (fail)
            clear c7 f6
            obtain ⟨V7, eV⟩ : ∃ W, w6.setCell ⟨sb, 10, none⟩ (.slice (some ⟨g2, 0, none⟩) j e2) = W := ⟨_, rfl⟩
            rw [eV] at hl6 hq6 HB6 R26 hsz6 ⊢
            clear eV
            replace hl6 : V7.heap[sb]? = some (.cells #[.string (str [67, 76]), .slice B1 j d1, .int .i64 T, .int .i64 lo, .int .i64 (lo + hg), .int .i64 hg, .int .i64 3, .int .i64 4, .int .i64 2, .int .i64 40, .slice (some ⟨g2, 0, none⟩) j e2] 25 (0, 0)) := hl6
            have HP7 : V7.heap[mb]? = some (.cells #[.string (str [67, 76]), .slice B1 j d1, .int .i64 T, .int .i64 lo, .int .i64 (lo + hg), .int .i64 hg, .int .i64 3, .int .i64 4, .int .i64 2, .int .i64 40, .slice (some ⟨gb, go, none⟩) j d2] 25 (0, 0)) := (HB6.block mb hmq).trans H.out
            have NS7 : Nums V7 (some ⟨g2, 0, none⟩) j (fun _ => lo) := nums_own (N := fun _ => lo) R26 (fun k hk => ⟨by omega, by omega⟩)
            have cp3 := own_cap R26
            have lt2 := World.ownsRow.lt R26 g2 rfl
            have cz := World.ownsRow.frozenAt R26 0
            have c0 : V7.cell? ⟨g2, 0, none⟩ = some (.int .i64 lo) := by
              obtain ⟨b, off, e, h1, -⟩ := NS7 0 (by omega)
              injection e with e
              injection e with e1 e2
              subst e1
              subst e2
              exact h1
            have h0 : 0 < j := by omega
            have h01 : (0 : Int) < (j : Int) := by omega
            obtain ⟨k0, k1, k2, k3, k4, k5, k6, k7, k8, k9, k10⟩ := row11 HP7
            obtain ⟨l0, l1, l2, l3, l4, l5, l6, l7, l8, l9, l10⟩ := row11 hl6
            go_upto_region 27 with (fail)
            obtain ⟨V8, eV⟩ : ∃ W, V7.setCell ⟨g2, 0, none⟩ (.int .i64 (lo + hg + T)) = W := ⟨_, rfl⟩
            rw [eV]
            have HQ8 : V8.heap[qb]? = some (.cells #[.string (str [67, 76]), .slice B1 j d1, .int .i64 T, .int .i64 lo, .int .i64 (lo + hg), .int .i64 (hg + T), .int .i64 3, .int .i64 4, .int .i64 2, .int .i64 40, .slice (some ⟨gb, go, none⟩) j d2] 25 (0, 0)) := by rw [← eV]; exact (heap_setCell_other V7 ⟨g2, 0, none⟩ qb _ (show qb ≠ g2 by omega)).trans hq6
            have HS8 : V8.heap[sb]? = some (.cells #[.string (str [67, 76]), .slice B1 j d1, .int .i64 T, .int .i64 lo, .int .i64 (lo + hg), .int .i64 hg, .int .i64 3, .int .i64 4, .int .i64 2, .int .i64 40, .slice (some ⟨g2, 0, none⟩) j e2] 25 (0, 0)) := by rw [← eV]; exact (heap_setCell_other V7 ⟨g2, 0, none⟩ sb _ (show sb ≠ g2 by omega)).trans hl6
            have G8 : Below wr.heap.size wr V8 := by rw [← eV]; exact HB6.setCell (p := ⟨g2, 0, none⟩) (show wr.heap.size ≤ g2 by omega) _
            have NS8 : Nums V8 (some ⟨g2, 0, none⟩) j (fun k => if k = 0 then lo + hg + T else lo) := by rw [← eV]; exact nums_put NS7 h0 ⟨by omega, by omega⟩
            have hokr : (limP B1 d1 (some ⟨g2, 0, none⟩) e2 j Q T lo hg hg (fun k => if k = 0 then lo + hg + T else lo)).Ok V8 := ⟨NM.out.below G8, NS8, by show [67, 76].length ≤ _; simp, cp1.1, cp1.2, cp3.1, cp3.2, ⟨by show _ ≤ T; omega, by show T ≤ _; omega⟩, ⟨by show _ ≤ lo; omega, by show lo ≤ _; omega⟩, ⟨by show _ ≤ lo + hg; omega, by show lo + hg ≤ _; omega⟩, ⟨by show _ ≤ hg; omega, by show hg ≤ _; omega⟩, ⟨by show _ ≤ (3 : Int); omega, by show (3 : Int) ≤ _; omega⟩, ⟨by show _ ≤ (4 : Int); omega, by show (4 : Int) ≤ _; omega⟩, ⟨by show _ ≤ (2 : Int); omega, by show (2 : Int) ≤ _; omega⟩, ⟨by show _ ≤ (40 : Int); omega, by show (40 : Int) ≤ _; omega⟩⟩
            have HCr : Hid (∀ W, Below V8.heap.size V8 W → Calls Try.prog 13 #[.agg #[.string (str [67, 76]), .slice B1 j d1, .int .i64 T, .int .i64 lo, .int .i64 (lo + hg), .int .i64 hg, .int .i64 3, .int .i64 4, .int .i64 2, .int .i64 40, .slice (some ⟨g2, 0, none⟩) j e2]] W fun e w' => e = .returned (.int .i64 1) ∧ Below W.heap.size W w') := Lib.hid (fun W g => by
              have := PCheck_any (limP B1 d1 (some ⟨g2, 0, none⟩) e2 j Q T lo hg hg (fun k => if k = 0 then lo + hg + T else lo)) W (Lib.hid (hokr.below g))
              rw [lim_settle _ _ _ _ _ _ _ _ _ hj2 hn6 lim.out] at this; exact this)
            clear eV hokr NS8 NS7 NM NS hl6 hq6 HB6 HP7 R26 hsz6 cz c0 cp3 lt2 k0 k1 k2 k3 k4 k5 k6 k7 k8 k9 k10 l0 l1 l2 l3 l4 l5 l6 l7 l8 l9 l10
            obtain ⟨k0, k1, k2, k3, k4, k5, k6, k7, k8, k9, k10⟩ := row11 HQ8
            go_wp2_with fail
            refine (HCq.out V8 G8).mono ?_
            clear HCq
            rintro e u4 ⟨rfl, b4⟩
            have HS9 : u4.heap[sb]? = some (.cells #[.string (str [67, 76]), .slice B1 j d1, .int .i64 T, .int .i64 lo, .int .i64 (lo + hg), .int .i64 hg, .int .i64 3, .int .i64 4, .int .i64 2, .int .i64 40, .slice (some ⟨g2, 0, none⟩) j e2] 25 (0, 0)) := (b4.block sb (Array.getElem?_eq_some_iff.1 HS8).1).trans HS8
            clear k0 k1 k2 k3 k4 k5 k6 k7 k8 k9 k10
            obtain ⟨k0, k1, k2, k3, k4, k5, k6, k7, k8, k9, k10⟩ := row11 HS9
            go_wp2_with fail
            refine (HCr.out u4 b4).mono ?_
            clear HCr
            rintro e u5 ⟨rfl, b5⟩
            have b55 := b4.trans (b5.mono b4.size)
            have HQ9 : u5.heap[qb]? = some (.cells #[.string (str [67, 76]), .slice B1 j d1, .int .i64 T, .int .i64 lo, .int .i64 (lo + hg), .int .i64 (hg + T), .int .i64 3, .int .i64 4, .int .i64 2, .int .i64 40, .slice (some ⟨gb, go, none⟩) j d2] 25 (0, 0)) := (b55.block qb (Array.getElem?_eq_some_iff.1 HQ8).1).trans HQ8
            clear k0 k1 k2 k3 k4 k5 k6 k7 k8 k9 k10 HS9 HS8 HQ8
            obtain ⟨k0, k1, k2, k3, k4, k5, k6, k7, k8, k9, k10⟩ := row11 HQ9
            have G9 := G8.trans (b55.mono G8.size)
            clear b4 b5 b55 G8
            go_wp2_with fail
            refine (HNq.out u5 G9).mono ?_
            clear HNq
            rintro e u6 ⟨rfl, b6⟩
            have G10 := G9.trans (b6.mono G9.size)
            clear k0 k1 k2 k3 k4 k5 k6 k7 k8 k9 k10 HQ9 G9 b6
            go_wp2_with fail
            refine (Known_any u6).mono ?_
            rintro e u7 ⟨rfl, b7⟩
            have G11 := G10.trans (b7.mono G10.size)
            go_wp2_with fail
            go_ret
            exact ⟨rfl, HB.out.trans (G11.mono HB.out.size)⟩
end Go.Proofs.Ytbigmbpclikenaa

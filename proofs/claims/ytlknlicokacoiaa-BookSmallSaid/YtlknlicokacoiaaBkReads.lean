/-
  Contracts: Best, At, of book.
-/
import Derived.Test.YtlknlicokacoiaaBkReadP
import Derived.Test.YtlknlicokacoiaaBkApp
namespace Go.Proofs.Ytlknlicokacoiaa
open Go.RowKit
set_option linter.unusedVariables false
set_option linter.unusedSimpArgs false

theorem sideB_cases (s : Int) : sideB s = false ∨ ∃ sn : Nat, s = sn ∧ (sn = 1 ∨ sn = 2) := by
  cases h : sideB s with
  | false => exact .inl rfl
  | true =>
    have := of_decide_eq_true h
    exact .inr ⟨s.toNat, by omega, by omega⟩
theorem CInv.rows_le' {ex : Nat → Prop} {c : Cs} (h : CInv ex c) (s : Nat) : (c.R s).length ≤ c.st.Q.length := by
  have h1 : (rowQs c).length = c.st.Q.length := by rw [h.part.length_eq, List.length_range]
  unfold rowQs at h1
  rw [List.length_append, List.length_append, List.length_map, List.length_map] at h1
  rcases Nat.decEq s 1 with h2 | rfl
  · rcases Nat.decEq s 2 with h3 | rfl
    · rw [h.none' s h2 h3]; exact Nat.zero_le _
    · omega
  · omega
theorem build_noLevel : ∀ W : World, (Instr.build 47 #[]).run Try.prog W = .ok (.agg #[.int .i64 0, .int .i64 0, .int .i64 0]) W := fun W => by kernel_rfl
theorem bestO_cons {L : List Or} {s : Int} {x : Lv} {l : List Lv} (h : ladO L s = x :: l) : bestO L s = (x, true) := by unfold bestO; rw [h]
theorem bestO_nil {L : List Or} {s : Int} (h : ladO L s = []) : bestO L s = (zeroL, false) := by unfold bestO; rw [h]
set_option maxRecDepth 100000 in
set_option maxHeartbeats 2000000 in
theorem Best_any (B b a : Nat) (F : Nat → Prop) (V : Nat → Value) (vs : Value) (c : Cs) (s : Int) (w : World) (hW : Hid (Wb B b a F V vs c w)) (hI : Hid (CInv noEx c)) (hQ : c.st.Q.length ≤ 250) :
    Calls Try.prog 22 #[.pointer (some ⟨b, 0, none⟩), .int .i64 s] w fun e w' => e = .returned (.tuple #[(bestO c.abs s).1.val, .bool (bestO c.abs s).2]) ∧ Below w.heap.size w w' := by
  obtain ⟨g, eg⟩ : ∃ g, w.heap.size = g := ⟨_, rfl⟩
  obtain ⟨W0, eW0⟩ : ∃ W, w.alloc (.cells #[.int .i64 0, .int .i64 0, .int .i64 0] 47) = W := ⟨_, rfl⟩
  have hg : W0.heap[g]? = some (.cells #[.int .i64 0, .int .i64 0, .int .i64 0] 47 (0, 0)) := by rw [← eW0, ← eg]; exact heap_alloc_new w _
  have b0 : Below w.heap.size w W0 := by rw [← eW0]; exact (Below.refl _ w).alloc (Nat.le_refl _) _
  have hgl : g < W0.heap.size := (Array.getElem?_eq_some_iff.1 hg).1
  have hW0 := Lib.hid (hW.out.below b0)
  have hle : w.heap.size ≤ g := by omega
  obtain ⟨⟨y0, y1, y2⟩, u0, u1, u2⟩ := row3 hg
  have q0 := Lib.hid (set3 (.int .i64 0) (.int .i64 0) (.int .i64 0) hg)
  have fin0 : Hid (Below w.heap.size w (((W0.setCell ⟨g, 0, none⟩ (.int .i64 0)).setCell ⟨g, 1, none⟩ (.int .i64 0)).setCell ⟨g, 2, none⟩ (.int .i64 0))) :=
    Lib.hid (((b0.setCell (p := ⟨g, 0, none⟩) hle _).setCell (p := ⟨g, 1, none⟩) hle _).setCell (p := ⟨g, 2, none⟩) hle _)
  have hbn := build_noLevel
  have hgh := Lib.hid hg
  have hb0 := Lib.hid b0
  replace hgl := Lib.hid hgl
  replace hle := Lib.hid hle
  replace eW0 := Lib.hid eW0
  replace eg := Lib.hid eg
  clear hg b0
  obtain ⟨P, eP⟩ : ∃ P, bestO c.abs s = P := ⟨_, rfl⟩
  rw [eP]
  rcases sideB_cases s with hs | ⟨sn, rfl, hs⟩
  · have HR := Lib.hid (Rows_no b s W0 hs)
    have hP : Hid (P = (zeroL, false)) := Lib.hid (by rw [← eP, bestO_nil (CInv.lad_no hs)])
    clear eP
    go_enter Try.func22, Try.ntmps22
    go_upto_region 1 with (fail)
    rw [eW0.out, eg.out]
    go_wp2_with fail
    refine HR.out.mono ?_
    rintro e w1 ⟨rfl, rfl⟩
    go_wp2_with fail
    refine bodyPost_ret (results_cell_row_tmp rfl _ _ g 47 _ (0, 0) _ rfl q0.out rfl rfl rfl) rfl ?_
    rw [hP.out]
    exact ⟨rfl, fin0.out⟩
  · have HR := Lib.hid (Rows_yes b a V vs c.R c.T c.S sn W0 (Lib.hid hW0.out.bm) hs)
    obtain ⟨A, cap, ev, hv, -, -, -, hA⟩ := (hW0.out.bm.rw sn hs).slice
    have hlad := hI.out.lad hs
    cases hR : c.R sn with
    | nil =>
      have hP : Hid (P = (zeroL, false)) := Lib.hid (by rw [← eP, bestO_nil (by rw [hlad, hR]; rfl)])
      rw [ev, hR] at HR
      simp only [List.length_nil] at HR
      clear eP hlad hv hA ev hR
      go_enter Try.func22, Try.ntmps22
      go_upto_region 1 with (fail)
      rw [eW0.out, eg.out]
      go_wp2_with fail
      refine HR.out.mono ?_
      rintro e w1 ⟨rfl, rfl⟩
      go_wp2_with fail
      refine bodyPost_ret (results_cell_row_tmp rfl _ _ g 47 _ (0, 0) _ rfl q0.out rfl rfl rfl) rfl ?_
      rw [hP.out]
      exact ⟨rfl, fin0.out⟩
    | cons r R' =>
      have hP : Hid (P = (lvR c.st r, true)) := Lib.hid (by rw [← eP, bestO_cons (x := lvR c.st r) (l := R'.map (lvR c.st)) (by rw [hlad, hR]; rfl)])
      obtain ⟨n, en⟩ : ∃ n, (c.R sn).length = n := ⟨_, rfl⟩
      have hn : ¬ n = 0 := by rw [← en, hR]; simp
      have hn2 : 0 < n := by omega
      have hn3 : ((n : Int) == 0) = false := by simpa using hn
      obtain ⟨gv, off, eA, c0, c1⟩ := hv.atR (j := 0) (x := r) (by rw [hR]; rfl)
      have hoff : off = 0 := (hA _ eA).1
      subst hoff
      simp only [Nat.zero_mul, Nat.zero_add, Nat.add_zero] at c0 c1
      rw [ev, en, eA] at HR
      have HL := Lib.hid (Level_any B b a F V vs c r W0 hW0 (by omega))
      obtain ⟨lp, ln, lc, elv⟩ : ∃ p n c', lvR c.st r = ⟨p, n, c'⟩ := ⟨_, _, _, rfl⟩
      rw [elv] at HL hP
      have HL' : Hid (Calls Try.prog 46 #[.pointer (some ⟨b, 0, none⟩), .agg #[.int .i64 r.1, .int .i64 (r.2 : Int)]] W0 fun e' w' => e' = .returned (.agg #[.int .i64 lp, .int .i64 ln, .int .i64 lc]) ∧ Below W0.heap.size W0 w') := HL
      obtain ⟨rp, rq⟩ := r
      simp only at HL' c0 c1
      clear eP hlad hv hA ev hR HL elv eA en
      go_enter Try.func22, Try.ntmps22
      go_upto_region 1 with (fail)
      rw [eW0.out, eg.out]
      go_wp2_with fail
      refine HR.out.mono ?_
      rintro e w1 ⟨rfl, rfl⟩
      go_wp2_with fail
      refine HL'.out.mono ?_
      rintro e w2 ⟨rfl, b2⟩
      have hg2 := (b2.block g hgl.out).trans hgh.out
      have bw2 := hb0.out.trans (b2.mono hb0.out.size)
      clear y0 y1 y2 u0 u1 u2 q0 fin0
      obtain ⟨⟨y0, y1, y2⟩, u0, u1, u2⟩ := row3 hg2
      have q3 := Lib.hid (set3 (.int .i64 lp) (.int .i64 ln) (.int .i64 lc) hg2)
      have fin : Hid (Below w.heap.size w (((w2.setCell ⟨g, 0, none⟩ (.int .i64 lp)).setCell ⟨g, 1, none⟩ (.int .i64 ln)).setCell ⟨g, 2, none⟩ (.int .i64 lc))) :=
        Lib.hid (((bw2.setCell (p := ⟨g, 0, none⟩) hle.out _).setCell (p := ⟨g, 1, none⟩) hle.out _).setCell (p := ⟨g, 2, none⟩) hle.out _)
      replace b2 := Lib.hid b2
      clear hg2 bw2
      go_wp2_with fail
      refine bodyPost_ret (results_cell_row_tmp rfl _ _ g 47 _ (0, 0) _ rfl q3.out rfl rfl rfl) rfl ?_
      rw [hP.out]
      exact ⟨rfl, fin.out⟩
set_option maxRecDepth 100000 in
set_option maxHeartbeats 2000000 in
theorem At_any (B b a : Nat) (F : Nat → Prop) (V : Nat → Value) (vs : Value) (c : Cs) (s p : Int) (w : World) (hW : Hid (Wb B b a F V vs c w)) (hI : Hid (CInv noEx c)) (hQ : c.st.Q.length ≤ 250) :
    Calls Try.prog 20 #[.pointer (some ⟨b, 0, none⟩), .int .i64 s, .int .i64 p] w (AppPost w.heap.size (atO c.abs s p) w) := by
  have bs : Hid (Below w.heap.size w w) := Lib.hid (Below.refl _ _)
  have own0 : Hid (∀ W, Own fO 40 W w.heap.size (.slice none 0 0) []) := Lib.hid (fun W => own_nil _ _ _)
  obtain ⟨D, eD⟩ : ∃ D, w.heap.size = D := ⟨_, rfl⟩
  have hlow : Hid (∀ k, wfoot b F V vs k → k < D) := Lib.hid (fun k hk => by have := (hW.out.lt hk).2; omega)
  rw [eD] at own0 bs ⊢
  replace eD := Lib.hid eD
  obtain ⟨P, eP⟩ : ∃ P, atO c.abs s p = P := ⟨_, rfl⟩
  rw [eP]
  rcases sideB_cases s with hs | ⟨sn, rfl, hs⟩
  · have HR := Lib.hid (Rows_no b s w hs)
    have HP := Lib.hid (Place_any none 0 0 s p [] w (Lib.hid (hv_nil w none)) (by omega))
    have hP : Hid (P = []) := Lib.hid (by rw [← eP, CInv.at_no hs])
    have e1 : placeN s p [] = 0 := rfl
    have e2 : foundB s p [] = false := rfl
    rw [e1, e2] at HP
    clear eP e1 e2
    go_enter Try.func20, Try.ntmps20
    go_wp2_with fail
    refine HR.out.mono ?_
    rintro e w1 ⟨rfl, rfl⟩
    go_wp2_with fail
    refine HP.out.mono ?_
    rintro e w2 ⟨rfl, b2⟩
    replace b2 := Lib.hid b2
    go_wp2_with fail
    go_ret
    rw [hP.out]
    exact ⟨_, rfl, own0.out _, by rw [← eD.out]; exact b2.out⟩
  · have HR := Lib.hid (Rows_yes b a V vs c.R c.T c.S sn w (Lib.hid hW.out.bm) hs)
    obtain ⟨A, cap, ev, hv, -, -, -, hA⟩ := (hW.out.bm.rw sn hs).slice
    have hRl := hI.out.rows_le' sn
    have HP := Place_any A (c.R sn).length cap (sn : Int) p (c.R sn) w (Lib.hid hv) (by omega)
    rw [ev] at HR
    cases hf : foundB (sn : Int) p (c.R sn) with
    | false =>
      have hP : Hid (P = []) := Lib.hid (by rw [← eP, hI.out.at_none hs hf])
      rw [hf] at HP
      obtain ⟨k, ek⟩ : ∃ k, placeN (sn : Int) p (c.R sn) = k := ⟨_, rfl⟩
      obtain ⟨n, en⟩ : ∃ k, (c.R sn).length = k := ⟨_, rfl⟩
      rw [ek, en] at HP
      rw [en] at HR
      replace HP := Lib.hid HP
      clear eP hv hA ev hf ek en hRl
      go_enter Try.func20, Try.ntmps20
      go_wp2_with fail
      refine HR.out.mono ?_
      rintro e w1 ⟨rfl, rfl⟩
      go_wp2_with fail
      refine HP.out.mono ?_
      rintro e w2 ⟨rfl, b2⟩
      replace b2 := Lib.hid b2
      go_wp2_with fail
      go_ret
      rw [hP.out]
      exact ⟨_, rfl, own0.out _, by rw [← eD.out]; exact b2.out⟩
    | true =>
      obtain ⟨X, q, Y, hR, hX⟩ := place_found (hI.out.sort sn) hf
      have hP : Hid (P = [] ++ rowO c.st sn (p, q)) := Lib.hid (by rw [← eP, hI.out.at_found hs hR, List.nil_append])
      rw [hf] at HP
      obtain ⟨k, ek⟩ : ∃ k, placeN (sn : Int) p (c.R sn) = k := ⟨_, rfl⟩
      rw [ek] at HP hX
      obtain ⟨gv, off, eA, c0, c1⟩ := hv.atR (j := k) (x := (p, q)) (by rw [hR, ← hX]; simp)
      have hoff : off = 0 := (hA _ eA).1
      subst hoff
      have hgl : gv < w.heap.size := (hA _ eA).2.2.2
      simp only [Nat.zero_add] at c0 c1
      have hkn : k < (c.R sn).length := by rw [hR, ← hX]; simp
      obtain ⟨n, en⟩ : ∃ k, (c.R sn).length = k := ⟨_, rfl⟩
      rw [en, eA] at HP
      rw [en, eA] at HR
      rw [en] at hkn
      replace HP := Lib.hid HP
      have hlq : (lq c.st q).length ≤ 250 := by
        have hqQ := (hI.out.apart hR).lt
        have := hI.out.ok.short (lq_some hqQ)
        rw [hI.out.room] at this; exact this
      have hC : Hid (∀ e ∈ lq c.st q, c.T[e.s]? = some ((sn : Int), p)) := Lib.hid (fun e he => hI.out.seat sn (p, q) e (by rw [hR]; simp) he)
      have HA : Hid (∀ W, Below w.heap.size w W → Calls Try.prog 47 #[.pointer (some ⟨b, 0, none⟩), .slice none 0 0, .agg #[.int .i64 p, .int .i64 (q : Int)]] W (AppPost D ([] ++ rowO c.st sn (p, q)) W)) := Lib.hid (fun W h =>
        App_any B b a F V vs c D (.slice none 0 0) [] sn (p, q) W (Lib.hid (hW.out.below h)) hC hlow (Lib.hid (by rw [← eD.out]; exact h.size)) (Lib.hid (own0.out W)) (Lib.hid (by show 0 + (lq c.st q).length ≤ 100000; omega)) (by omega))
      have hcells : Hid (∀ W, Below w.heap.size w W → W.cell? ⟨gv, k * 2, none⟩ = some (.int .i64 p) ∧ W.cell? ⟨gv, k * 2 + 1, none⟩ = some (.int .i64 (q : Int))) := Lib.hid (fun W h =>
        ⟨(World.cell?_of_block (a := ⟨gv, k * 2, none⟩) (h.block gv hgl)).trans c0, (World.cell?_of_block (a := ⟨gv, k * 2 + 1, none⟩) (h.block gv hgl)).trans c1⟩)
      clear eP hv hA ev hf ek en hRl hR hX eA c0 c1 hgl hlq hC
      go_enter Try.func20, Try.ntmps20
      go_wp2_with fail
      refine HR.out.mono ?_
      rintro e w1 ⟨rfl, rfl⟩
      go_wp2_with fail
      refine HP.out.mono ?_
      rintro e w2 ⟨rfl, b2⟩
      obtain ⟨z0, z1⟩ := hcells.out w2 b2
      have HA2 := Lib.hid (HA.out w2 b2)
      replace b2 := Lib.hid b2
      go_wp2_with fail
      refine HA2.out.mono ?_
      rintro e w3 ⟨v3, rfl, o3, b3⟩
      replace o3 := Lib.hid o3
      replace b3 := Lib.hid b3
      go_wp2_with fail
      go_ret
      rw [hP.out]
      exact ⟨_, rfl, o3.out, by have := b2.out; rw [eD.out] at this; exact this.trans b3.out⟩
end Go.Proofs.Ytlknlicokacoiaa
